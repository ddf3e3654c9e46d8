/-
  The opening of any leaf of a list, or why there is none, is the reference's; its path has as many hashes as the way up has steps; the law's example holds: 'OpenLeaves' returns true for every input.
  Conditions: those of the given card (sha's table of round constants as the program's text lays it).
-/
import Derived.Test.YtecfgjoomckleaaDoorRows
import Derived.Test.YtecfgjoomckleaaDoorOpe
import Derived.WalkKit
import Derived.ProofKit
import Derived.OpenShut
import Derived.ShutString
import Derived.SizedLaws
import Derived.Test.YtecfgjoomckleaaDoorBas
import Derived.LaidMore
import Derived.SevenTiedAt
import Derived.Test.YtecfgjoomckleaaDoorCards
import Derived.Test.YtecfgjoomckleaaDoorTie
import Derived.Test.YtecfgjoomckleaaDoorShb
namespace Go.Proofs.YtecfgjoomckleaaDoor.openLeaves
open Go.ChangeShapes Go.WideShapes Go.ChangeAt Go.RowKit
open Go.ChangeMaps (open_string shut_string)
set_option linter.unusedVariables false

theorem own : ownKnob Tryd.prog.godebug = none := by kernel_rfl
theorem laidOut : laidOutB Tryd.prog = true := by kernel_rfl

set_option maxRecDepth 100000 in
set_option maxHeartbeats 4000000 in
theorem walk (p0 : Option Addr) (n0 c0 : Nat) (S0 : Nat → ByteArray) (z0 : n0 ≤ c0 ∧ c0 ≤ maxLen) (r0 : ∀ i, i < n0 → (S0 i).size ≤ 140737488351232) (a1 : Int) (w1 : (Lit.int .i64 a1).wf = true) (w : World) (e0 : SAt w p0 n0 S0) (hT : Tab w) :
    Calls Tryd.prog 3 #[.slice p0 n0 c0, .int .i64 a1] w fun e w' => e = .returned (.bool true) ∧ Kept w w' := by
  have HM := Lib.hid (much12_any p0 n0 c0 S0 w e0 r0 (by unfold maxLen at z0; omega))
  have HT := Lib.hid hT
  have HS := Lib.hid e0
  clear e0 r0 z0 hT w1
  go_enter Tryd.func3, Tryd.ntmps3
  go_wp2_with fail
  refine HM.out.mono ?_
  rintro e u0 ⟨B, rfl, rfl, hB⟩
  cases B with
  | true =>
    go_wp2_with fail
    refine (awake13_any w HT.out).mono ?_
    rintro e u1 ⟨rfl, k1⟩
    replace k1 := Lib.hid k1
    go_wp2_with fail
    go_ret
    exact ⟨rfl, k1.out⟩
  | false =>
    obtain ⟨hn, hz⟩ := hB rfl
    clear hB HM
    have hz' : ∀ i, i < n0 → (S0 i).size ≤ 1000000 := fun i hi => Nat.le_trans (hz i hi) (by omega)
    have H1 : Hid (∀ w, SAt w p0 n0 S0 → Tab w → _) := Lib.hid fun w hS ht => openOpen_at p0 n0 c0 S0 a1 w hS hz' (by omega) ht
    have H2 : Hid (∀ w, SAt w p0 n0 S0 → _) := Lib.hid fun w hS => refOpen_at p0 n0 c0 S0 a1 w hS hz' (by omega)
    have H3 : Hid (∀ (q q' : Option Addr) (cc cc' : Nat) (w : World), HSl (opL S0 n0 a1).length (lh (opL S0 n0 a1)) (.slice q (opL S0 n0 a1).length cc) w → HSl (opL S0 n0 a1).length (lh (opL S0 n0 a1)) (.slice q' (opL S0 n0 a1).length cc') w →
        Calls Tryd.prog 9 #[.agg #[.int .i64 (opI n0 a1), .int .i64 (opC n0 a1), .slice q (opL S0 n0 a1).length cc], .agg #[.int .i64 (opI n0 a1), .int .i64 (opC n0 a1), .slice q' (opL S0 n0 a1).length cc']] w fun e w' => e = .returned (.bool true) ∧ Kept w w') := Lib.hid fun q q' cc cc' w h h' => by
      have := refSame_any (opI n0 a1) (opC n0 a1) (opI n0 a1) (opC n0 a1) _ _ _ _ _ _ w h h'
      rwa [sameO_self] at this
    have HA : Hid (∀ w, Tab w → _) := Lib.hid fun w ht => awake13_any w ht
    have hn' : (n0 : Int) < 9223372036854775808 := by omega
    by_cases hi : 0 ≤ a1 ∧ a1 < (n0 : Int)
    · have hE : opE n0 a1 = 0 := if_pos hi
      have H4 : Hid (∀ w, Calls Tryd.prog 10 #[.int .i64 (n0 : Int), .int .i64 a1] w fun e w' => e = .returned (.int .i64 ((opL S0 n0 a1).length : Int)) ∧ Kept w w') := Lib.hid fun w => by
        have := refDepth_any (n0 : Int) a1 w hn'
        rwa [depth_opL S0 n0 a1 hi] at this
      rw [hE] at H1 H2
      clear hz hz' hn hi hE
      generalize lh (opL S0 n0 a1) = F at H1 H2 H3
      generalize (opL S0 n0 a1).length = m at H1 H2 H3 H4
      generalize opI n0 a1 = I at H1 H2 H3
      generalize opC n0 a1 = N at H1 H2 H3
      go_wp2_with fail
      refine (H1.out w HS.out HT.out).mono ?_
      rintro e u1 ⟨q, cc, rfl, hx, k1⟩
      have Y1 := Lib.hid hx
      have K1 := Lib.hid k1
      clear hx k1 H1
      go_wp2_with (refine wpList_store_made rfl 27 _ _ rfl _ _ #[.int .i64 I, .int .i64 N, .slice q m cc] rfl rfl 27 _ rfl (opR_size I N (.slice q m cc)) rfl (opR_one I N q m cc) ?_; intro u2 R1 k2)
      have Y2 := Lib.hid (HSl.kept _ _ _ _ _ k2.out Y1.out)
      have K2 := Lib.hid (K1.out.trans k2.out)
      clear k2 K1 Y1
      obtain ⟨g5, hg5⟩ : ∃ g, g = u1.heap.size := ⟨_, rfl⟩
      rw [← hg5] at R1 ⊢
      clear hg5
      refine (H2.out u2 (HS.out.kept K2.out)).mono ?_
      rintro e u3 ⟨q', cc', rfl, hx, k3⟩
      have Y3 := Lib.hid hx
      have X0 := Lib.hid (HSl.kept _ _ _ _ _ k3 Y2.out)
      have R2 := Lib.hid (R1.out.kept k3)
      have K3 := Lib.hid (K2.out.trans k3)
      clear hx k3 H2 R1 K2 Y2
      go_wp2_with (refine wpList_store_made rfl 27 _ _ rfl _ _ #[.int .i64 I, .int .i64 N, .slice q' m cc'] rfl rfl 27 _ rfl (opR_size I N (.slice q' m cc')) rfl (opR_one I N q' m cc') ?_; intro u4 R7 k4; have R5 := Lib.hid (R2.out.kept k4.out); have X1 := Lib.hid (HSl.kept _ _ _ _ _ k4.out X0.out); have X2 := Lib.hid (HSl.kept _ _ _ _ _ k4.out Y3.out); have K5 := Lib.hid (K3.out.trans k4.out); clear k4 K3 X0 Y3 R2)
      obtain ⟨g7, hg7⟩ : ∃ g, g = u3.heap.size := ⟨_, rfl⟩
      rw [← hg7] at R7 ⊢
      clear hg7
      refine wp_region_table [(24, .is (.agg #[.int .i64 I, .int .i64 N, .slice q m cc])), (25, .is (.agg #[.int .i64 I, .int .i64 N, .slice q' m cc'])), (26, .is (.bool true)), (27, .is (.bool true)), (28, .is (.int .i64 0)), (29, .is (.int .i64 0)), (30, .is (.bool true)), (31, .is (.bool true)), (32, .is (.bool true)), (33, .is (.int .i64 0)), (34, .is (.bool false)), (35, .is (.bool false)), (36, .is (.pointer (some ⟨g5, 2, none⟩))), (37, .is (.slice q m cc)), (38, .is (.int .i64 (m : Int))), (39, .is (.slice p0 n0 c0)), (40, .is (.int .i64 (n0 : Int))), (41, .is (.int .i64 a1)), (42, .is (.int .i64 (m : Int))), (43, .is (.bool true)), (44, .is (.bool true)), (45, .is (.bool true)), (46, .is (.bool true)), (47, .is (.bool true)), (48, .is (.bool true)), (4, .is (.bool true))] (by kernel_rfl) (by kernel_rfl) ?_ ?_
      · refine ⟨fun t w1 hf hk hp => ?_, ?_⟩
        · have h5 : slot t 5 = .pointer (some ⟨g5, 0, none⟩) := hf 5 (by kernel_rfl)
          clear hf hp
          refine stepAt_plain rfl ?_
          exact stepOK_pure (.agg #[.int .i64 I, .int .i64 N, .slice q m cc]) (loadO rfl h5 (R5.out.kept hk) rfl) rfl
        refine ⟨fun t w1 hf hk hp => ?_, ?_⟩
        · have h7 : slot t 7 = .pointer (some ⟨g7, 0, none⟩) := hf 7 (by kernel_rfl)
          clear hf hp
          refine stepAt_plain rfl ?_
          exact stepOK_pure (.agg #[.int .i64 I, .int .i64 N, .slice q' m cc']) (loadO rfl h7 (R7.out.kept hk) rfl) rfl
        refine ⟨fun t w1 hf hk hp => ?_, ?_⟩
        · have h24 : slot t 24 = .agg #[.int .i64 I, .int .i64 N, .slice q m cc] := hp 24 (by kernel_rfl)
          have h25 : slot t 25 = .agg #[.int .i64 I, .int .i64 N, .slice q' m cc'] := hp 25 (by kernel_rfl)
          clear hf hp
          refine stepAt_plain rfl ?_
          refine stepOK_call #[.agg #[.int .i64 I, .int .i64 N, .slice q m cc], .agg #[.int .i64 I, .int .i64 N, .slice q' m cc']] rfl (by simp only [List.map_toArray, List.map_cons, List.map_nil, evS, h24, h25]) (by go_simp) ((H3.out q q' cc cc' w1 (HSl.kept _ _ _ _ _ hk X1.out) (HSl.kept _ _ _ _ _ hk X2.out)).mono fun e w' ⟨he, hk'⟩ => ⟨_, he, hk', rfl⟩)
        refine ⟨fun t w1 hf hk hp => ?_, ?_⟩
        · have h26 : slot t 26 = .bool true := hp 26 (by kernel_rfl)
          clear hf hp
          refine stepAt_plain rfl ?_
          exact stepOK_move _ (.inl rfl) h26
        refine ⟨fun t w1 hf hk hp => ?_, ?_⟩
        · have h6 : slot t 6 = .int .i64 0 := hf 6 (by kernel_rfl)
          have h27 : slot t 27 = .bool true := hp 27 (by kernel_rfl)
          clear hf hp
          refine stepAt_on 27 true (by kernel_rfl) h27 ?_
          exact stepOK_move _ (.inl rfl) h6
        refine ⟨fun t w1 hf hk hp => ?_, ?_⟩
        · have h8 : slot t 8 = .int .i64 0 := hf 8 (by kernel_rfl)
          have h27 : slot t 27 = .bool true := hp 27 (by kernel_rfl)
          clear hf hp
          refine stepAt_on 27 true (by kernel_rfl) h27 ?_
          exact stepOK_move _ (.inl rfl) h8
        refine ⟨fun t w1 hf hk hp => ?_, ?_⟩
        · have h28 : slot t 28 = .int .i64 0 := hp 28 (by kernel_rfl)
          have h29 : slot t 29 = .int .i64 0 := hp 29 (by kernel_rfl)
          have h27 : slot t 27 = .bool true := hp 27 (by kernel_rfl)
          clear hf hp
          refine stepAt_on 27 true (by kernel_rfl) h27 ?_
          refine stepOK_pure (.bool true) ?_ rfl
          simp only [execOp, evS, h28, h29]
          go_simp
        refine ⟨fun t w1 hf hk hp => ?_, ?_⟩
        · have h27 : slot t 27 = .bool true := hp 27 (by kernel_rfl)
          have h30 : slot t 30 = .bool true := hp 30 (by kernel_rfl)
          clear hf hp
          refine stepAt_plain rfl ?_
          refine stepOK_pure (.bool true) ?_ rfl
          simp only [execOp, evS, h27, h30]
          go_simp
        refine ⟨fun t w1 hf hk hp => ?_, ?_⟩
        · have h31 : slot t 31 = .bool true := hp 31 (by kernel_rfl)
          clear hf hp
          refine stepAt_plain rfl ?_
          exact stepOK_move _ (.inl rfl) h31
        refine ⟨fun t w1 hf hk hp => ?_, ?_⟩
        · have h6 : slot t 6 = .int .i64 0 := hf 6 (by kernel_rfl)
          have h32 : slot t 32 = .bool true := hp 32 (by kernel_rfl)
          clear hf hp
          refine stepAt_on 32 true (by kernel_rfl) h32 ?_
          exact stepOK_move _ (.inl rfl) h6
        refine ⟨fun t w1 hf hk hp => ?_, ?_⟩
        · have h33 : slot t 33 = .int .i64 0 := hp 33 (by kernel_rfl)
          have h32 : slot t 32 = .bool true := hp 32 (by kernel_rfl)
          clear hf hp
          refine stepAt_on 32 true (by kernel_rfl) h32 ?_
          refine stepOK_pure (.bool false) ?_ rfl
          simp only [execOp, evS, h33]
          go_simp
        refine ⟨fun t w1 hf hk hp => ?_, ?_⟩
        · have h34 : slot t 34 = .bool false := hp 34 (by kernel_rfl)
          have h32 : slot t 32 = .bool true := hp 32 (by kernel_rfl)
          clear hf hp
          refine stepAt_on 32 true (by kernel_rfl) h32 ?_
          exact stepOK_move _ (.inl rfl) h34
        refine ⟨fun t w1 hf hk hp => ?_, ?_⟩
        · have h5 : slot t 5 = .pointer (some ⟨g5, 0, none⟩) := hf 5 (by kernel_rfl)
          have h35 : slot t 35 = .bool false := hp 35 (by kernel_rfl)
          clear hf hp
          refine stepAt_on 35 false (by kernel_rfl) h35 ?_
          exact stepOK_pure (.pointer (some ⟨g5, 2, none⟩)) (execFieldO g5 2 (by omega) w1 rfl h5) rfl
        refine ⟨fun t w1 hf hk hp => ?_, ?_⟩
        · have h36 : slot t 36 = .pointer (some ⟨g5, 2, none⟩) := hp 36 (by kernel_rfl)
          have h35 : slot t 35 = .bool false := hp 35 (by kernel_rfl)
          clear hf hp
          refine stepAt_on 35 false (by kernel_rfl) h35 ?_
          have hq0 := run_loadHs ((R5.out.kept hk).cell 2)
          exact stepOK_sem (.slice q m cc) (by simp only [execOp, evS, h36]) hq0 rfl
        refine ⟨fun t w1 hf hk hp => ?_, ?_⟩
        · have h37 : slot t 37 = .slice q m cc := hp 37 (by kernel_rfl)
          have h35 : slot t 35 = .bool false := hp 35 (by kernel_rfl)
          clear hf hp
          refine stepAt_on 35 false (by kernel_rfl) h35 ?_
          exact stepOK_pure (.int .i64 (m : Int)) (execLenHs w1 rfl h37) rfl
        refine ⟨fun t w1 hf hk hp => ?_, ?_⟩
        · have h0 : slot t 0 = .slice p0 n0 c0 := hf 0 (by kernel_rfl)
          have h35 : slot t 35 = .bool false := hp 35 (by kernel_rfl)
          clear hf hp
          refine stepAt_on 35 false (by kernel_rfl) h35 ?_
          exact stepOK_move _ (.inl rfl) h0
        refine ⟨fun t w1 hf hk hp => ?_, ?_⟩
        · have h39 : slot t 39 = .slice p0 n0 c0 := hp 39 (by kernel_rfl)
          have h35 : slot t 35 = .bool false := hp 35 (by kernel_rfl)
          clear hf hp
          refine stepAt_on 35 false (by kernel_rfl) h35 ?_
          exact stepOK_pure (.int .i64 (n0 : Int)) (execLenStrs w1 rfl h39) rfl
        refine ⟨fun t w1 hf hk hp => ?_, ?_⟩
        · have h1 : slot t 1 = .int .i64 a1 := hf 1 (by kernel_rfl)
          have h35 : slot t 35 = .bool false := hp 35 (by kernel_rfl)
          clear hf hp
          refine stepAt_on 35 false (by kernel_rfl) h35 ?_
          exact stepOK_move _ (.inl rfl) h1
        refine ⟨fun t w1 hf hk hp => ?_, ?_⟩
        · have h40 : slot t 40 = .int .i64 (n0 : Int) := hp 40 (by kernel_rfl)
          have h41 : slot t 41 = .int .i64 a1 := hp 41 (by kernel_rfl)
          have h35 : slot t 35 = .bool false := hp 35 (by kernel_rfl)
          clear hf hp
          refine stepAt_on 35 false (by kernel_rfl) h35 ?_
          refine stepOK_call #[.int .i64 (n0 : Int), .int .i64 a1] rfl (by simp only [List.map_toArray, List.map_cons, List.map_nil, evS, h40, h41]) (by go_simp) ((H4.out w1).mono fun e w' ⟨he, hk'⟩ => ⟨_, he, hk', rfl⟩)
        refine ⟨fun t w1 hf hk hp => ?_, ?_⟩
        · have h38 : slot t 38 = .int .i64 (m : Int) := hp 38 (by kernel_rfl)
          have h42 : slot t 42 = .int .i64 (m : Int) := hp 42 (by kernel_rfl)
          have h35 : slot t 35 = .bool false := hp 35 (by kernel_rfl)
          clear hf hp
          refine stepAt_on 35 false (by kernel_rfl) h35 ?_
          refine stepOK_pure (.bool true) ?_ rfl
          simp only [execOp, evS, h38, h42]
          go_simp
        refine ⟨fun t w1 hf hk hp => ?_, ?_⟩
        · have h35 : slot t 35 = .bool false := hp 35 (by kernel_rfl)
          have h43 : slot t 43 = .bool true := hp 43 (by kernel_rfl)
          have h32 : slot t 32 = .bool true := hp 32 (by kernel_rfl)
          clear hf hp
          refine stepAt_on 32 true (by kernel_rfl) h32 ?_
          refine stepOK_pure (.bool true) ?_ rfl
          simp only [execOp, evS, h35, h43]
          go_simp
        refine ⟨fun t w1 hf hk hp => ?_, ?_⟩
        · have h32 : slot t 32 = .bool true := hp 32 (by kernel_rfl)
          have h44 : slot t 44 = .bool true := hp 44 (by kernel_rfl)
          clear hf hp
          refine stepAt_plain rfl ?_
          refine stepOK_pure (.bool true) ?_ rfl
          simp only [execOp, evS, h32, h44]
          go_simp
        refine ⟨fun t w1 hf hk hp => ?_, ?_⟩
        · have h45 : slot t 45 = .bool true := hp 45 (by kernel_rfl)
          clear hf hp
          refine stepAt_plain rfl ?_
          exact stepOK_move _ (.inl rfl) h45
        refine ⟨fun t w1 hf hk hp => ?_, ?_⟩
        · have h46 : slot t 46 = .bool true := hp 46 (by kernel_rfl)
          clear hf hp
          refine stepAt_on 46 true (by kernel_rfl) h46 ?_
          refine stepOK_call #[] rfl (by simp only [List.map_toArray, List.map_nil]) (by go_simp) ((HA.out w1 (HT.out.kept (K5.out.trans hk))).mono fun e w' ⟨he, hk'⟩ => ⟨_, he, hk', rfl⟩)
        refine ⟨fun t w1 hf hk hp => ?_, ?_⟩
        · have h46 : slot t 46 = .bool true := hp 46 (by kernel_rfl)
          have h47 : slot t 47 = .bool true := hp 47 (by kernel_rfl)
          clear hf hp
          refine stepAt_plain rfl ?_
          refine stepOK_pure (.bool true) ?_ rfl
          simp only [execOp, evS, h46, h47]
          go_simp
        refine ⟨fun t w1 hf hk hp => ?_, ?_⟩
        · have h48 : slot t 48 = .bool true := hp 48 (by kernel_rfl)
          clear hf hp
          refine stepAt_plain rfl ?_
          exact stepOK_move _ (.inr rfl) h48
        exact trivial
      · intro t w1 hsz hf hk hfacts
        have h4 : slot t 4 = .bool true := hfacts 25 _ rfl 4 rfl
        have h0 : slot t 0 = .slice p0 n0 c0 := hf 0 (by kernel_rfl)
        have h1 : slot t 1 = .int .i64 a1 := hf 1 (by kernel_rfl)
        have h5 : slot t 5 = .pointer (some ⟨g5, 0, none⟩) := hf 5 (by kernel_rfl)
        have h6 : slot t 6 = .int .i64 0 := hf 6 (by kernel_rfl)
        have h7 : slot t 7 = .pointer (some ⟨g7, 0, none⟩) := hf 7 (by kernel_rfl)
        have h8 : slot t 8 = .int .i64 0 := hf 8 (by kernel_rfl)
        have harr : t = #[slot t 0, slot t 1, slot t 2, slot t 3, slot t 4, slot t 5, slot t 6, slot t 7, slot t 8, slot t 9, slot t 10, slot t 11, slot t 12, slot t 13, slot t 14, slot t 15, slot t 16, slot t 17, slot t 18, slot t 19, slot t 20, slot t 21, slot t 22, slot t 23, slot t 24, slot t 25, slot t 26, slot t 27, slot t 28, slot t 29, slot t 30, slot t 31, slot t 32, slot t 33, slot t 34, slot t 35, slot t 36, slot t 37, slot t 38, slot t 39, slot t 40, slot t 41, slot t 42, slot t 43, slot t 44, slot t 45, slot t 46, slot t 47, slot t 48] := arr_eq t 49 hsz
        rw [harr, h4, h0, h1, h5, h6, h7, h8]
        clear harr hfacts hf h4 h0 h1 h5 h6 h7 h8
        generalize slot t 2 = x2; generalize slot t 3 = x3; generalize slot t 9 = x9; generalize slot t 10 = x10; generalize slot t 11 = x11; generalize slot t 12 = x12; generalize slot t 13 = x13; generalize slot t 14 = x14; generalize slot t 15 = x15; generalize slot t 16 = x16; generalize slot t 17 = x17; generalize slot t 18 = x18
        generalize slot t 19 = x19; generalize slot t 20 = x20; generalize slot t 21 = x21; generalize slot t 22 = x22; generalize slot t 23 = x23; generalize slot t 24 = x24; generalize slot t 25 = x25; generalize slot t 26 = x26; generalize slot t 27 = x27; generalize slot t 28 = x28; generalize slot t 29 = x29; generalize slot t 30 = x30
        generalize slot t 31 = x31; generalize slot t 32 = x32; generalize slot t 33 = x33; generalize slot t 34 = x34; generalize slot t 35 = x35; generalize slot t 36 = x36; generalize slot t 37 = x37; generalize slot t 38 = x38; generalize slot t 39 = x39; generalize slot t 40 = x40; generalize slot t 41 = x41; generalize slot t 42 = x42
        generalize slot t 43 = x43; generalize slot t 44 = x44; generalize slot t 45 = x45; generalize slot t 46 = x46; generalize slot t 47 = x47; generalize slot t 48 = x48
        clear hsz t
        have K6 := Lib.hid (K5.out.trans hk)
        clear hk
        go_wp2_with fail
        go_ret
        exact ⟨rfl, K6.out⟩
    · have hE : opE n0 a1 = 3 := if_neg hi
      rw [hE] at H1 H2
      clear hz hz' hn hi hE
      generalize lh (opL S0 n0 a1) = F at H1 H2 H3
      generalize (opL S0 n0 a1).length = m at H1 H2 H3
      generalize opI n0 a1 = I at H1 H2 H3
      generalize opC n0 a1 = N at H1 H2 H3
      go_wp2_with fail
      refine (H1.out w HS.out HT.out).mono ?_
      rintro e u1 ⟨q, cc, rfl, hx, k1⟩
      have Y1 := Lib.hid hx
      have K1 := Lib.hid k1
      clear hx k1 H1
      go_wp2_with (refine wpList_store_made rfl 27 _ _ rfl _ _ #[.int .i64 I, .int .i64 N, .slice q m cc] rfl rfl 27 _ rfl (opR_size I N (.slice q m cc)) rfl (opR_one I N q m cc) ?_; intro u2 R1 k2)
      have Y2 := Lib.hid (HSl.kept _ _ _ _ _ k2.out Y1.out)
      have K2 := Lib.hid (K1.out.trans k2.out)
      clear k2 K1 Y1
      obtain ⟨g5, hg5⟩ : ∃ g, g = u1.heap.size := ⟨_, rfl⟩
      rw [← hg5] at R1 ⊢
      clear hg5
      refine (H2.out u2 (HS.out.kept K2.out)).mono ?_
      rintro e u3 ⟨q', cc', rfl, hx, k3⟩
      have Y3 := Lib.hid hx
      have X0 := Lib.hid (HSl.kept _ _ _ _ _ k3 Y2.out)
      have R2 := Lib.hid (R1.out.kept k3)
      have K3 := Lib.hid (K2.out.trans k3)
      clear hx k3 H2 R1 K2 Y2
      go_wp2_with (refine wpList_store_made rfl 27 _ _ rfl _ _ #[.int .i64 I, .int .i64 N, .slice q' m cc'] rfl rfl 27 _ rfl (opR_size I N (.slice q' m cc')) rfl (opR_one I N q' m cc') ?_; intro u4 R7 k4; have R5 := Lib.hid (R2.out.kept k4.out); have X1 := Lib.hid (HSl.kept _ _ _ _ _ k4.out X0.out); have X2 := Lib.hid (HSl.kept _ _ _ _ _ k4.out Y3.out); have K5 := Lib.hid (K3.out.trans k4.out); clear k4 K3 X0 Y3 R2)
      obtain ⟨g7, hg7⟩ : ∃ g, g = u3.heap.size := ⟨_, rfl⟩
      rw [← hg7] at R7 ⊢
      clear hg7
      refine wp_region_table [(24, .is (.agg #[.int .i64 I, .int .i64 N, .slice q m cc])), (25, .is (.agg #[.int .i64 I, .int .i64 N, .slice q' m cc'])), (26, .is (.bool true)), (27, .is (.bool true)), (28, .is (.int .i64 3)), (29, .is (.int .i64 3)), (30, .is (.bool true)), (31, .is (.bool true)), (32, .is (.bool true)), (33, .is (.int .i64 3)), (34, .is (.bool true)), (35, .is (.bool true)), (36, .is (undef)), (37, .is (undef)), (38, .is (undef)), (39, .is (undef)), (40, .is (undef)), (41, .is (undef)), (42, .is (undef)), (43, .is (undef)), (44, .is (.bool true)), (45, .is (.bool true)), (46, .is (.bool true)), (47, .is (.bool true)), (48, .is (.bool true)), (4, .is (.bool true))] (by kernel_rfl) (by kernel_rfl) ?_ ?_
      · refine ⟨fun t w1 hf hk hp => ?_, ?_⟩
        · have h5 : slot t 5 = .pointer (some ⟨g5, 0, none⟩) := hf 5 (by kernel_rfl)
          clear hf hp
          refine stepAt_plain rfl ?_
          exact stepOK_pure (.agg #[.int .i64 I, .int .i64 N, .slice q m cc]) (loadO rfl h5 (R5.out.kept hk) rfl) rfl
        refine ⟨fun t w1 hf hk hp => ?_, ?_⟩
        · have h7 : slot t 7 = .pointer (some ⟨g7, 0, none⟩) := hf 7 (by kernel_rfl)
          clear hf hp
          refine stepAt_plain rfl ?_
          exact stepOK_pure (.agg #[.int .i64 I, .int .i64 N, .slice q' m cc']) (loadO rfl h7 (R7.out.kept hk) rfl) rfl
        refine ⟨fun t w1 hf hk hp => ?_, ?_⟩
        · have h24 : slot t 24 = .agg #[.int .i64 I, .int .i64 N, .slice q m cc] := hp 24 (by kernel_rfl)
          have h25 : slot t 25 = .agg #[.int .i64 I, .int .i64 N, .slice q' m cc'] := hp 25 (by kernel_rfl)
          clear hf hp
          refine stepAt_plain rfl ?_
          refine stepOK_call #[.agg #[.int .i64 I, .int .i64 N, .slice q m cc], .agg #[.int .i64 I, .int .i64 N, .slice q' m cc']] rfl (by simp only [List.map_toArray, List.map_cons, List.map_nil, evS, h24, h25]) (by go_simp) ((H3.out q q' cc cc' w1 (HSl.kept _ _ _ _ _ hk X1.out) (HSl.kept _ _ _ _ _ hk X2.out)).mono fun e w' ⟨he, hk'⟩ => ⟨_, he, hk', rfl⟩)
        refine ⟨fun t w1 hf hk hp => ?_, ?_⟩
        · have h26 : slot t 26 = .bool true := hp 26 (by kernel_rfl)
          clear hf hp
          refine stepAt_plain rfl ?_
          exact stepOK_move _ (.inl rfl) h26
        refine ⟨fun t w1 hf hk hp => ?_, ?_⟩
        · have h6 : slot t 6 = .int .i64 3 := hf 6 (by kernel_rfl)
          have h27 : slot t 27 = .bool true := hp 27 (by kernel_rfl)
          clear hf hp
          refine stepAt_on 27 true (by kernel_rfl) h27 ?_
          exact stepOK_move _ (.inl rfl) h6
        refine ⟨fun t w1 hf hk hp => ?_, ?_⟩
        · have h8 : slot t 8 = .int .i64 3 := hf 8 (by kernel_rfl)
          have h27 : slot t 27 = .bool true := hp 27 (by kernel_rfl)
          clear hf hp
          refine stepAt_on 27 true (by kernel_rfl) h27 ?_
          exact stepOK_move _ (.inl rfl) h8
        refine ⟨fun t w1 hf hk hp => ?_, ?_⟩
        · have h28 : slot t 28 = .int .i64 3 := hp 28 (by kernel_rfl)
          have h29 : slot t 29 = .int .i64 3 := hp 29 (by kernel_rfl)
          have h27 : slot t 27 = .bool true := hp 27 (by kernel_rfl)
          clear hf hp
          refine stepAt_on 27 true (by kernel_rfl) h27 ?_
          refine stepOK_pure (.bool true) ?_ rfl
          simp only [execOp, evS, h28, h29]
          go_simp
        refine ⟨fun t w1 hf hk hp => ?_, ?_⟩
        · have h27 : slot t 27 = .bool true := hp 27 (by kernel_rfl)
          have h30 : slot t 30 = .bool true := hp 30 (by kernel_rfl)
          clear hf hp
          refine stepAt_plain rfl ?_
          refine stepOK_pure (.bool true) ?_ rfl
          simp only [execOp, evS, h27, h30]
          go_simp
        refine ⟨fun t w1 hf hk hp => ?_, ?_⟩
        · have h31 : slot t 31 = .bool true := hp 31 (by kernel_rfl)
          clear hf hp
          refine stepAt_plain rfl ?_
          exact stepOK_move _ (.inl rfl) h31
        refine ⟨fun t w1 hf hk hp => ?_, ?_⟩
        · have h6 : slot t 6 = .int .i64 3 := hf 6 (by kernel_rfl)
          have h32 : slot t 32 = .bool true := hp 32 (by kernel_rfl)
          clear hf hp
          refine stepAt_on 32 true (by kernel_rfl) h32 ?_
          exact stepOK_move _ (.inl rfl) h6
        refine ⟨fun t w1 hf hk hp => ?_, ?_⟩
        · have h33 : slot t 33 = .int .i64 3 := hp 33 (by kernel_rfl)
          have h32 : slot t 32 = .bool true := hp 32 (by kernel_rfl)
          clear hf hp
          refine stepAt_on 32 true (by kernel_rfl) h32 ?_
          refine stepOK_pure (.bool true) ?_ rfl
          simp only [execOp, evS, h33]
          go_simp
        refine ⟨fun t w1 hf hk hp => ?_, ?_⟩
        · have h34 : slot t 34 = .bool true := hp 34 (by kernel_rfl)
          have h32 : slot t 32 = .bool true := hp 32 (by kernel_rfl)
          clear hf hp
          refine stepAt_on 32 true (by kernel_rfl) h32 ?_
          exact stepOK_move _ (.inl rfl) h34
        refine ⟨fun t w1 hf hk hp => ?_, ?_⟩
        · have h35 : slot t 35 = .bool true := hp 35 (by kernel_rfl)
          clear hf hp
          exact stepAt_off 35 false (by kernel_rfl) h35 rfl
        refine ⟨fun t w1 hf hk hp => ?_, ?_⟩
        · have h35 : slot t 35 = .bool true := hp 35 (by kernel_rfl)
          clear hf hp
          exact stepAt_off 35 false (by kernel_rfl) h35 rfl
        refine ⟨fun t w1 hf hk hp => ?_, ?_⟩
        · have h35 : slot t 35 = .bool true := hp 35 (by kernel_rfl)
          clear hf hp
          exact stepAt_off 35 false (by kernel_rfl) h35 rfl
        refine ⟨fun t w1 hf hk hp => ?_, ?_⟩
        · have h35 : slot t 35 = .bool true := hp 35 (by kernel_rfl)
          clear hf hp
          exact stepAt_off 35 false (by kernel_rfl) h35 rfl
        refine ⟨fun t w1 hf hk hp => ?_, ?_⟩
        · have h35 : slot t 35 = .bool true := hp 35 (by kernel_rfl)
          clear hf hp
          exact stepAt_off 35 false (by kernel_rfl) h35 rfl
        refine ⟨fun t w1 hf hk hp => ?_, ?_⟩
        · have h35 : slot t 35 = .bool true := hp 35 (by kernel_rfl)
          clear hf hp
          exact stepAt_off 35 false (by kernel_rfl) h35 rfl
        refine ⟨fun t w1 hf hk hp => ?_, ?_⟩
        · have h35 : slot t 35 = .bool true := hp 35 (by kernel_rfl)
          clear hf hp
          exact stepAt_off 35 false (by kernel_rfl) h35 rfl
        refine ⟨fun t w1 hf hk hp => ?_, ?_⟩
        · have h35 : slot t 35 = .bool true := hp 35 (by kernel_rfl)
          clear hf hp
          exact stepAt_off 35 false (by kernel_rfl) h35 rfl
        refine ⟨fun t w1 hf hk hp => ?_, ?_⟩
        · have h35 : slot t 35 = .bool true := hp 35 (by kernel_rfl)
          have h43 : slot t 43 = undef := hp 43 (by kernel_rfl)
          have h32 : slot t 32 = .bool true := hp 32 (by kernel_rfl)
          clear hf hp
          refine stepAt_on 32 true (by kernel_rfl) h32 ?_
          refine stepOK_pure (.bool true) ?_ rfl
          simp only [execOp, evS, h35, h43]
          go_simp
        refine ⟨fun t w1 hf hk hp => ?_, ?_⟩
        · have h32 : slot t 32 = .bool true := hp 32 (by kernel_rfl)
          have h44 : slot t 44 = .bool true := hp 44 (by kernel_rfl)
          clear hf hp
          refine stepAt_plain rfl ?_
          refine stepOK_pure (.bool true) ?_ rfl
          simp only [execOp, evS, h32, h44]
          go_simp
        refine ⟨fun t w1 hf hk hp => ?_, ?_⟩
        · have h45 : slot t 45 = .bool true := hp 45 (by kernel_rfl)
          clear hf hp
          refine stepAt_plain rfl ?_
          exact stepOK_move _ (.inl rfl) h45
        refine ⟨fun t w1 hf hk hp => ?_, ?_⟩
        · have h46 : slot t 46 = .bool true := hp 46 (by kernel_rfl)
          clear hf hp
          refine stepAt_on 46 true (by kernel_rfl) h46 ?_
          refine stepOK_call #[] rfl (by simp only [List.map_toArray, List.map_nil]) (by go_simp) ((HA.out w1 (HT.out.kept (K5.out.trans hk))).mono fun e w' ⟨he, hk'⟩ => ⟨_, he, hk', rfl⟩)
        refine ⟨fun t w1 hf hk hp => ?_, ?_⟩
        · have h46 : slot t 46 = .bool true := hp 46 (by kernel_rfl)
          have h47 : slot t 47 = .bool true := hp 47 (by kernel_rfl)
          clear hf hp
          refine stepAt_plain rfl ?_
          refine stepOK_pure (.bool true) ?_ rfl
          simp only [execOp, evS, h46, h47]
          go_simp
        refine ⟨fun t w1 hf hk hp => ?_, ?_⟩
        · have h48 : slot t 48 = .bool true := hp 48 (by kernel_rfl)
          clear hf hp
          refine stepAt_plain rfl ?_
          exact stepOK_move _ (.inr rfl) h48
        exact trivial
      · intro t w1 hsz hf hk hfacts
        have h4 : slot t 4 = .bool true := hfacts 25 _ rfl 4 rfl
        have h0 : slot t 0 = .slice p0 n0 c0 := hf 0 (by kernel_rfl)
        have h1 : slot t 1 = .int .i64 a1 := hf 1 (by kernel_rfl)
        have h5 : slot t 5 = .pointer (some ⟨g5, 0, none⟩) := hf 5 (by kernel_rfl)
        have h6 : slot t 6 = .int .i64 3 := hf 6 (by kernel_rfl)
        have h7 : slot t 7 = .pointer (some ⟨g7, 0, none⟩) := hf 7 (by kernel_rfl)
        have h8 : slot t 8 = .int .i64 3 := hf 8 (by kernel_rfl)
        have harr : t = #[slot t 0, slot t 1, slot t 2, slot t 3, slot t 4, slot t 5, slot t 6, slot t 7, slot t 8, slot t 9, slot t 10, slot t 11, slot t 12, slot t 13, slot t 14, slot t 15, slot t 16, slot t 17, slot t 18, slot t 19, slot t 20, slot t 21, slot t 22, slot t 23, slot t 24, slot t 25, slot t 26, slot t 27, slot t 28, slot t 29, slot t 30, slot t 31, slot t 32, slot t 33, slot t 34, slot t 35, slot t 36, slot t 37, slot t 38, slot t 39, slot t 40, slot t 41, slot t 42, slot t 43, slot t 44, slot t 45, slot t 46, slot t 47, slot t 48] := arr_eq t 49 hsz
        rw [harr, h4, h0, h1, h5, h6, h7, h8]
        clear harr hfacts hf h4 h0 h1 h5 h6 h7 h8
        generalize slot t 2 = x2; generalize slot t 3 = x3; generalize slot t 9 = x9; generalize slot t 10 = x10; generalize slot t 11 = x11; generalize slot t 12 = x12; generalize slot t 13 = x13; generalize slot t 14 = x14; generalize slot t 15 = x15; generalize slot t 16 = x16; generalize slot t 17 = x17; generalize slot t 18 = x18
        generalize slot t 19 = x19; generalize slot t 20 = x20; generalize slot t 21 = x21; generalize slot t 22 = x22; generalize slot t 23 = x23; generalize slot t 24 = x24; generalize slot t 25 = x25; generalize slot t 26 = x26; generalize slot t 27 = x27; generalize slot t 28 = x28; generalize slot t 29 = x29; generalize slot t 30 = x30
        generalize slot t 31 = x31; generalize slot t 32 = x32; generalize slot t 33 = x33; generalize slot t 34 = x34; generalize slot t 35 = x35; generalize slot t 36 = x36; generalize slot t 37 = x37; generalize slot t 38 = x38; generalize slot t 39 = x39; generalize slot t 40 = x40; generalize slot t 41 = x41; generalize slot t 42 = x42
        generalize slot t 43 = x43; generalize slot t 44 = x44; generalize slot t 45 = x45; generalize slot t 46 = x46; generalize slot t 47 = x47; generalize slot t 48 = x48
        clear hsz t
        have K6 := Lib.hid (K5.out.trans hk)
        clear hk
        go_wp2_with fail
        go_ret
        exact ⟨rfl, K6.out⟩

set_option maxRecDepth 100000 in
set_option maxHeartbeats 1000000 in
theorem lifted (os : Os) (started : os.Started) (H : Type) (enc : TypeId × Value → H) :
    ReturnsInHanded {} Tryd.checked os 3 .any (fun w args => (Rows.openLeavesSpec.pre enc Tryd.prog Tryd.f3 [] false w args ∧ laidMetH Tryd.prog Rows.openLeavesRow.laid w) ∧ sizedMet enc Tryd.prog Tryd.f3 (OpenSpec.ofChange Rows.openLeavesSpec) false w args)
      (Rows.openLeavesSpec.post enc Tryd.prog Tryd.f3 false true false false) := by
  refine returnsInHanded_of_change_and (C := Tryd.checked) (X := fun w _ => laidMetH Tryd.prog Rows.openLeavesRow.laid w) (fun _ _ _ hh h => h.of_heap hh) own started (by kernel_rfl) Tryd.func3
    (ChangeSpec.witness_shaped (enc := enc) (C := Tryd.checked) (os := os) (X := fun w _ => laidMetH Tryd.prog Rows.openLeavesRow.laid w) false (World.doorLaid Tryd.prog 400 os) #[.slice none 0 0, .int .i64 0] 8 rfl (World.shaped_of_RefB (by kernel_rfl) (by kernel_rfl)) (by kernel_rfl) (by kernel_rfl) (by kernel_rfl) (door_met os _)) ?_
  intro W base args ds gs before hval0 hW _ hsz0 hL _
  have hval : ∀ (j : Nat) t v, Tryd.f3.params[j]? = some t → args[j]? = some v → Value.okWide Tryd.prog W .any base t v := hval0
  have hsz : (DataW.weightsEach Tryd.prog (Tryd.f3.params.toList ++ Rows.openLeavesSpec.plain.varTypes Tryd.prog) (ds ++ gs)).all (· ≤ reachBytes) = true := hsz0
  have hW' := hW
  obtain ⟨p, q, hA0, hV, rfl, hfz, hnd⟩ := hW
  have hA : DataW.TrodAll enc Tryd.prog W 0 (fun _ => true) true Tryd.f3.params.toList args.toList ds p := hA0
  have hAk := hA
  rw [Tryd.params3] at hA hval hsz
  obtain ⟨v0, vs0, d0, ds0, p0_, q0_, hargs, rfl, rfl, h0, r0_⟩ := trodAll_cons hA
  obtain ⟨v1, vs1, d1, ds1, p1_, q1_, rfl, rfl, rfl, h1, r1_⟩ := trodAll_cons r0_
  obtain ⟨rfl, rfl, rfl⟩ := trodAll_nil r1_
  obtain rfl : args = #[v0, v1] := by cases args; simp_all
  obtain ⟨rfl, rfl⟩ := trodVars_none hV
  have hlt : ∀ x ∈ (p0_ ++ (p1_ ++ ([]))), x.block < W.heap.size := fun x hx => by simpa using hW'.lt x (by simpa using hx)
  obtain ⟨p0, n0, c0, S0, z0, rfl, e0, rr0⟩ := open_sslice Tryd.underlying22 Tryd.underlying9 (by kernel_rfl) (hval 0 22 v0 rfl rfl) h0
  obtain ⟨a1, rfl, rfl, rfl, w1⟩ := open_int Tryd.underlying3 (hval 1 3 v1 rfl rfl) h1
  have r0 := (rr0 hsz (J := 0) rfl rfl).2
  clear hA0 hval0
  refine (walk p0 n0 c0 S0 z0 r0 a1 w1 W e0 (tab_of_laid hL)).mono fun e W' ⟨he, hg⟩ => ?_
  subst he
  exact ⟨_, rfl, ⟨_, _, _, [], _, [], hW', trodAll_cons_mk (shut_bool Tryd.underlying4 _) trodAll_mk0, trodAll_stays laidOut hg (by kernel_rfl) hAk hlt (fun x hx => by simpa using hlt x hx), rfl, Kept.frame hg _, fun h => by cases h⟩⟩

theorem over : Rows.openLeavesRow.holds Tryd.pinned (OpenSpec.ofChange Rows.openLeavesSpec) :=
  OpenClaim.holds_of_wide 3 Tryd.f3 rfl rfl rfl rfl rfl rfl rfl ⟨rfl, rfl, rfl, rfl, rfl⟩ rfl rfl rfl rfl rfl (by kernel_rfl) Tryd.func3 (by kernel_rfl)
    (of_decide_eq_true (by kernel_rfl)) (by unfold Func.isWrapper; first | (rw [if_pos (by decide +kernel)]; kernel_rfl) | (rw [if_neg (by decide +kernel)]; exact ⟨rfl, rfl⟩))
    (fun os started H enc _ => lifted os started H enc)
end Go.Proofs.YtecfgjoomckleaaDoor.openLeaves
namespace Go.Proofs.YtecfgjoomckleaaDoor
theorem openLeaves_holds : Rows.OpenLeavesSaid := openLeaves.over
theorem openLeaves_card : Rows.OpenLeavesCardSaid :=
  Claim7.holds_tied_plain_at .later [] [.data] true (true, "121d3008c91a42be9b9fca8af4b73f6689e190c4c5aeb7ce629360028d1ca94b") false
    openLeaves_holds (fun _ h => by cases h) (by kernel_rfl) (fun _ h => by cases h) openLeaves_row_tie rfl ⟨rfl, rfl⟩ (by kernel_rfl) rfl
    (fun f fn hf hfn => by
      obtain rfl : f = 3 := Option.some.inj ((show Tryd.prog.funcNamed "milepost/milepostlaw13.OpenLeaves" = some 3 by kernel_rfl).symm.trans hf) |>.symm
      obtain rfl : fn = Tryd.f3 := (Option.some.inj (Tryd.func3.symm.trans hfn)).symm
      refine ⟨by kernel_rfl, fun j t ht => ?_⟩
      have hm : t ∈ Tryd.f3.params.toList := by simpa using Array.mem_of_getElem? ht
      have hall : (Tryd.f3.params.toList.all fun u => !Tryd.prog.wantsStandIn u) = true := by kernel_rfl
      exact (show Tryd.prog.wantsStandIn t = false by simpa using List.all_eq_true.1 hall t hm))
    (by kernel_rfl)
#print axioms openLeaves_card
end Go.Proofs.YtecfgjoomckleaaDoor
