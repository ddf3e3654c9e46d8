/-
  No leaf of a transaction is one of an id, and what is opened is checked if transactions may be; chapter 22's example holds: 'TxsApart' returns true.
  Conditions: those of the given card (sha's table of round constants as the program's text lays it).
-/
import Derived.Test.YtcbcjiaedoeaeaaDoorRows
import Derived.Test.YtcbcjiaedoeaeaaDoorTxLaw
import Derived.Test.YtcbcjiaedoeaeaaDoorOpe
import Derived.WalkKit
import Derived.ProofKit
import Derived.OpenShut
import Derived.ShutString
import Derived.SizedLaws
import Derived.Test.YtcbcjiaedoeaeaaDoorBas
import Derived.LaidMore
import Derived.SevenTiedAt
import Derived.Test.YtcbcjiaedoeaeaaDoorCards
import Derived.Test.YtcbcjiaedoeaeaaDoorTie
import Derived.Test.YtcbcjiaedoeaeaaDoorShb
namespace Go.Proofs.YtcbcjiaedoeaeaaDoor.txsApart
open Go.ChangeShapes Go.WideShapes Go.ChangeAt Go.RowKit
open Go.ChangeMaps (open_string shut_string)
set_option linter.unusedVariables false

theorem own : ownKnob Tryd.prog.godebug = none := by kernel_rfl
theorem laidOut : laidOutB Tryd.prog = true := by kernel_rfl

set_option maxRecDepth 100000 in
set_option maxHeartbeats 4000000 in
theorem walk (p0 : Option Addr) (n0 c0 : Nat) (S0 : Nat → ByteArray) (z0 : n0 ≤ c0 ∧ c0 ≤ maxLen) (r0 : ∀ i, i < n0 → (S0 i).size ≤ 140737488351232) (a1 : Int) (w1 : (Lit.int .i64 a1).wf = true) (a2 : List UInt8) (n2 : a2.length = 32) (w : World) (e0 : SAt w p0 n0 S0) (hT : Tab w) :
    Calls Tryd.prog 5 #[.slice p0 n0 c0, .int .i64 a1, .agg (bC 32 a2)] w fun e w' => e = .returned (.bool true) ∧ Kept w w' := by
  have HT := Lib.hid hT
  have HA : Hid (∀ w, Tab w → _) := Lib.hid fun w ht => awake22_any w ht
  have HM : Hid (∀ w, SAt w p0 n0 S0 → _) := Lib.hid fun w hS => much22_any p0 n0 c0 S0 w hS r0 (by have := z0; unfold maxLen at this; omega)
  have HS := Lib.hid e0
  have hz01 := z0
  have hl2 := n2
  have R5 := Lib.hid (Rowz.new w (bC 32 a2) 34)
  have K1 := Lib.hid ((Kept.refl w).alloc (.cells (bC 32 a2) 34))
  clear e0 r0 hT w1 z0 n2
  go_enter Tryd.func5, Tryd.ntmps5
  go_wp2_with fail
  generalize w.alloc (.cells (bC 32 a2) 34) = v1 at R5 K1 ⊢
  replace HS := Lib.hid (HS.out.kept K1.out)
  replace HT := Lib.hid (HT.out.kept K1.out)
  refine (HM.out v1 HS.out).mono ?_
  rintro e _ ⟨B, rfl, rfl, hB⟩
  clear HM
  by_cases hgo : B = false ∧ n0 ≤ 60 ∧ 0 ≤ a1 ∧ a1 < (n0 : Int)
  · obtain ⟨rfl, h60, hi0, hi1⟩ := hgo
    obtain ⟨_, hz6⟩ := hB rfl
    clear hB
    obtain ⟨k, rfl⟩ : ∃ k : Nat, a1 = (k : Int) := ⟨a1.toNat, by omega⟩
    have hk0 : k < n0 := by omega
    have d1 : decide ((n0 : Int) > 60) = false := decide_eq_false (by omega)
    have d1' : decide ((60 : Int) < (n0 : Int)) = false := decide_eq_false (by omega)
    have d1'' : decide (60 < n0) = false := decide_eq_false (by omega)
    have d2 : decide ((k : Int) < 0) = false := decide_eq_false (by omega)
    have d3 : decide ((k : Int) ≥ (n0 : Int)) = false := decide_eq_false (by omega)
    have d3' : decide ((n0 : Int) ≤ (k : Int)) = false := decide_eq_false (by omega)
    have d3'' : decide (n0 ≤ k) = false := decide_eq_false (by omega)
    have hz : ∀ i, i < n0 → (S0 i).size ≤ 10000 := fun i hi => Nat.le_trans (hz6 i hi) (by omega)
    have X0 := Lib.hid (show SSl n0 S0 (.slice p0 n0 c0) v1 from ⟨p0, c0, rfl, hz01.1, hz01.2, HS.out⟩)
    have C1 := Lib.hid (txsOpen_any n0 S0 (.slice p0 n0 c0) v1 (k : Int) X0.out (by omega) hz HT.out)
    have C3 : Hid (∀ w, SSl n0 S0 (.slice p0 n0 c0) w → _) := Lib.hid fun w hv => txsMay_any n0 S0 (.slice p0 n0 c0) w hv (by omega) hz
    have C5 : Hid (∀ w, SSl n0 S0 (.slice p0 n0 c0) w → Tab w → _) := Lib.hid fun w hv ht => txsRoot_any n0 S0 (.slice p0 n0 c0) w hv (by omega) hz ht
    have HR32 : (rootL (tkS S0) n0).length = 32 := shaL_length _
    have hsk := hz k hk0
    by_cases hm : mayT S0 n0 = 0
    · have HE : Hid (otE S0 n0 (k : Int) = 0) := Lib.hid (by rw [otE, if_pos hm, opE, if_pos ⟨hi0, hi1⟩])
      have C6 : Hid (∀ v w, HSl (otL S0 n0 (k : Int)).length (lh (otL S0 n0 (k : Int))) v w → Tab w → Calls Tryd.prog 15 #[.agg (bC 32 (rootL (tkS S0) n0)), .string (S0 k), .agg #[.int .i64 (otI S0 n0 (k : Int)), .int .i64 (otC S0 n0 (k : Int)), v]] w fun e w' => e = .returned (.bool true) ∧ Kept w w') := Lib.hid fun v w hv ht => by
        have := txsCheck_any (rootL (tkS S0) n0) (S0 k) (otI S0 n0 (k : Int)) (otC S0 n0 (k : Int)) _ _ v w HR32 hsk hv ht
        obtain ⟨hm1, hm2⟩ := mayT_zero.1 hm
        have hc1 : decide (otC S0 n0 (k : Int) ≤ 1024) = true := decide_eq_true (by rw [otC, if_pos hm, opC, if_pos ⟨hi0, hi1⟩]; omega)
        have hc2 : decide ((S0 k).size ≤ 4096) = true := decide_eq_true (hm2 k hk0)
        have hck : ckO (rootL (tkS S0) n0) (txS (S0 k)) (otI S0 n0 (k : Int)) (otC S0 n0 (k : Int)) (otL S0 n0 (k : Int)).length (lh (otL S0 n0 (k : Int))) = true := by
          rw [otI, otC, otL, if_pos hm, if_pos hm, if_pos hm]
          exact decide_eq_true ⟨may_opL _ n0 k ⟨hi0, hi1⟩ (by omega), rt_opL (tkS S0) n0 k ⟨hi0, hi1⟩ (by omega)⟩
        rwa [hck, hc1, hc2] at this
      have C7 : Hid (∀ w, _) := Lib.hid fun w => txsText_any (S0 k) w hsk
      have C8 : Hid (∀ w, _) := Lib.hid fun w => linkText_any a2 w hl2
      have hne := Lib.hid (tx_link (S0 k) a2)
      rw [HE.out] at C1
      generalize (otL S0 n0 (k : Int)).length = m at C1 C6
      generalize lh (otL S0 n0 (k : Int)) = G at C1 C6
      generalize otI S0 n0 (k : Int) = I at C1 C6
      generalize otC S0 n0 (k : Int) = N at C1 C6
      generalize rootL (tkS S0) n0 = r at C5 C6 HR32
      generalize txS (S0 k) = tx at C7 hne
      generalize linkS a2 = lk at C8 hne
      have hsz : ∀ v : Value, (#[.int .i64 I, .int .i64 N, v] : Array Value).size = 3 := fun _ => rfl
      obtain ⟨q, rfl, _⟩ := HS.out.some (by omega)
      clear hz6 hz hz01 hm hi0 hi1 C3 HE hl2
      go_wp2_with fail
      refine C1.out.mono ?_
      rintro e v2 ⟨qa, ca, rfl, hp, k2⟩
      have PA := Lib.hid hp
      have K2 := Lib.hid k2
      clear hp k2 C1
      go_wp2_with (refine wpList_store_made rfl 27 _ _ rfl _ _ #[.int .i64 I, .int .i64 N, .slice qa m ca] rfl rfl 27 _ rfl (opR_size _ _ _) rfl (opR_one _ _ _ _ _) ?_; intro v3 R7 k3)
      obtain ⟨g7, hg7⟩ : ∃ g, g = v2.heap.size := ⟨_, rfl⟩
      rw [← hg7] at R7 ⊢
      clear hg7
      replace PA := Lib.hid (HSl.kept _ _ _ _ _ k3.out PA.out)
      replace K2 := Lib.hid (K2.out.trans k3.out)
      replace X0 := Lib.hid (SSl.kept _ _ _ _ _ K2.out X0.out)
      replace HT := Lib.hid (HT.out.kept K2.out)
      replace HS := Lib.hid (HS.out.kept K2.out)
      replace R5 := Lib.hid (R5.out.kept K2.out)
      replace K1 := Lib.hid (K1.out.trans K2.out)
      clear k3 K2
      go_wp2_with fail
      refine wp_region_table [(41, .is (.slice (some q) n0 c0)), (42, .is (.int .i64 (k : Int))), (43, .is (.pointer (some (q.add k)))), (44, .is (.string (S0 k))), (45, .is (.string tx)), (46, .is (.agg (bC 32 a2))), (47, .is (.string lk)), (48, .is (.bool true)), (49, .is (.bool true)), (50, .is (.slice (some q) n0 c0)), (51, .is (.agg (bC 32 r))), (52, .is (.slice (some q) n0 c0)), (53, .is (.int .i64 (k : Int))), (54, .is (.pointer (some (q.add k)))), (55, .is (.string (S0 k))), (56, .is (.agg #[.int .i64 I, .int .i64 N, .slice qa m ca])), (57, .is (.bool true)), (58, .is (.bool true)), (59, .is (.bool true)), (60, .is (.bool true)), (61, .is (.bool true)), (6, .is (.bool true))] (by kernel_rfl) (by kernel_rfl) ?_ ?_
      · refine ⟨fun t w1 hf hk hp => ?_, ?_⟩
        · have h0 : slot t 0 = .slice (some q) n0 c0 := hf 0 (by kernel_rfl)
          clear hf hp
          refine stepAt_plain rfl ?_
          exact stepOK_move _ (.inl rfl) h0
        refine ⟨fun t w1 hf hk hp => ?_, ?_⟩
        · have h1 : slot t 1 = .int .i64 (k : Int) := hf 1 (by kernel_rfl)
          clear hf hp
          refine stepAt_plain rfl ?_
          exact stepOK_move _ (.inl rfl) h1
        refine ⟨fun t w1 hf hk hp => ?_, ?_⟩
        · have h41 : slot t 41 = .slice (some q) n0 c0 := hp 41 (by kernel_rfl)
          have h42 : slot t 42 = .int .i64 (k : Int) := hp 42 (by kernel_rfl)
          clear hf hp
          refine stepAt_plain rfl ?_
          exact stepOK_pure (.pointer (some (q.add k))) (execIndexS q n0 c0 k hk0 w1 rfl (by assumption) (by assumption)) rfl
        refine ⟨fun t w1 hf hk hp => ?_, ?_⟩
        · have h43 : slot t 43 = .pointer (some (q.add k)) := hp 43 (by kernel_rfl)
          clear hf hp
          refine stepAt_plain rfl ?_
          exact stepOK_pure (.string (S0 k)) (load_sat k rfl h43 (HS.out.kept hk) hk0) rfl
        refine ⟨fun t w1 hf hk hp => ?_, ?_⟩
        · have h44 : slot t 44 = .string (S0 k) := hp 44 (by kernel_rfl)
          clear hf hp
          refine stepAt_plain rfl ?_
          refine stepOK_call #[.string (S0 k)] rfl (by simp only [List.map_toArray, List.map_cons, List.map_nil, evS, h44]) (by go_simp) ((C7.out w1).mono fun e w' ⟨he, hk'⟩ => ⟨_, he, hk', rfl⟩)
        refine ⟨fun t w1 hf hk hp => ?_, ?_⟩
        · have h5 : slot t 5 = .pointer (some ⟨w.heap.size, 0, none⟩) := hf 5 (by kernel_rfl)
          clear hf hp
          refine stepAt_plain rfl ?_
          exact stepOK_pure (.agg (bC 32 a2)) (load_h rfl h5 (R5.out.kept hk)) rfl
        refine ⟨fun t w1 hf hk hp => ?_, ?_⟩
        · have h46 : slot t 46 = .agg (bC 32 a2) := hp 46 (by kernel_rfl)
          clear hf hp
          refine stepAt_plain rfl ?_
          refine stepOK_call #[.agg (bC 32 a2)] rfl (by simp only [List.map_toArray, List.map_cons, List.map_nil, evS, h46]) (by go_simp) ((C8.out w1).mono fun e w' ⟨he, hk'⟩ => ⟨_, he, hk', rfl⟩)
        refine ⟨fun t w1 hf hk hp => ?_, ?_⟩
        · have h45 : slot t 45 = .string tx := hp 45 (by kernel_rfl)
          have h47 : slot t 47 = .string lk := hp 47 (by kernel_rfl)
          clear hf hp
          refine stepAt_plain rfl ?_
          exact stepOK_pure (.bool true) (execNeSYes tx lk hne.out w1 rfl h45 h47) rfl
        refine ⟨fun t w1 hf hk hp => ?_, ?_⟩
        · have h48 : slot t 48 = .bool true := hp 48 (by kernel_rfl)
          clear hf hp
          refine stepAt_plain rfl ?_
          exact stepOK_move _ (.inl rfl) h48
        refine ⟨fun t w1 hf hk hp => ?_, ?_⟩
        · have h0 : slot t 0 = .slice (some q) n0 c0 := hf 0 (by kernel_rfl)
          have h49 : slot t 49 = .bool true := hp 49 (by kernel_rfl)
          clear hf hp
          refine stepAt_on 49 true (by kernel_rfl) h49 ?_
          exact stepOK_move _ (.inl rfl) h0
        refine ⟨fun t w1 hf hk hp => ?_, ?_⟩
        · have h50 : slot t 50 = .slice (some q) n0 c0 := hp 50 (by kernel_rfl)
          have h49 : slot t 49 = .bool true := hp 49 (by kernel_rfl)
          clear hf hp
          refine stepAt_on 49 true (by kernel_rfl) h49 ?_
          refine stepOK_call #[.slice (some q) n0 c0] rfl (by simp only [List.map_toArray, List.map_cons, List.map_nil, evS, h50]) (by go_simp) ((C5.out w1 (SSl.kept _ _ _ _ _ hk X0.out) (HT.out.kept hk)).mono fun e w' ⟨he, hk'⟩ => ⟨_, he, hk', rfl⟩)
        refine ⟨fun t w1 hf hk hp => ?_, ?_⟩
        · have h0 : slot t 0 = .slice (some q) n0 c0 := hf 0 (by kernel_rfl)
          have h49 : slot t 49 = .bool true := hp 49 (by kernel_rfl)
          clear hf hp
          refine stepAt_on 49 true (by kernel_rfl) h49 ?_
          exact stepOK_move _ (.inl rfl) h0
        refine ⟨fun t w1 hf hk hp => ?_, ?_⟩
        · have h1 : slot t 1 = .int .i64 (k : Int) := hf 1 (by kernel_rfl)
          have h49 : slot t 49 = .bool true := hp 49 (by kernel_rfl)
          clear hf hp
          refine stepAt_on 49 true (by kernel_rfl) h49 ?_
          exact stepOK_move _ (.inl rfl) h1
        refine ⟨fun t w1 hf hk hp => ?_, ?_⟩
        · have h52 : slot t 52 = .slice (some q) n0 c0 := hp 52 (by kernel_rfl)
          have h53 : slot t 53 = .int .i64 (k : Int) := hp 53 (by kernel_rfl)
          have h49 : slot t 49 = .bool true := hp 49 (by kernel_rfl)
          clear hf hp
          refine stepAt_on 49 true (by kernel_rfl) h49 ?_
          exact stepOK_pure (.pointer (some (q.add k))) (execIndexS q n0 c0 k hk0 w1 rfl (by assumption) (by assumption)) rfl
        refine ⟨fun t w1 hf hk hp => ?_, ?_⟩
        · have h54 : slot t 54 = .pointer (some (q.add k)) := hp 54 (by kernel_rfl)
          have h49 : slot t 49 = .bool true := hp 49 (by kernel_rfl)
          clear hf hp
          refine stepAt_on 49 true (by kernel_rfl) h49 ?_
          exact stepOK_pure (.string (S0 k)) (load_sat k rfl h54 (HS.out.kept hk) hk0) rfl
        refine ⟨fun t w1 hf hk hp => ?_, ?_⟩
        · have h7 : slot t 7 = .pointer (some ⟨g7, 0, none⟩) := hf 7 (by kernel_rfl)
          have h49 : slot t 49 = .bool true := hp 49 (by kernel_rfl)
          clear hf hp
          refine stepAt_on 49 true (by kernel_rfl) h49 ?_
          exact stepOK_pure (.agg #[.int .i64 I, .int .i64 N, .slice qa m ca]) (loadO rfl h7 (R7.out.kept hk) (hsz _)) rfl
        refine ⟨fun t w1 hf hk hp => ?_, ?_⟩
        · have h51 : slot t 51 = .agg (bC 32 r) := hp 51 (by kernel_rfl)
          have h55 : slot t 55 = .string (S0 k) := hp 55 (by kernel_rfl)
          have h56 : slot t 56 = .agg #[.int .i64 I, .int .i64 N, .slice qa m ca] := hp 56 (by kernel_rfl)
          have h49 : slot t 49 = .bool true := hp 49 (by kernel_rfl)
          clear hf hp
          refine stepAt_on 49 true (by kernel_rfl) h49 ?_
          refine stepOK_call #[.agg (bC 32 r), .string (S0 k), .agg #[.int .i64 I, .int .i64 N, .slice qa m ca]] rfl (by simp only [List.map_toArray, List.map_cons, List.map_nil, evS, h51, h55, h56]) (by go_simp) ((C6.out _ w1 (HSl.kept _ _ _ _ _ hk PA.out) (HT.out.kept hk)).mono fun e w' ⟨he, hk'⟩ => ⟨_, he, hk', rfl⟩)
        refine ⟨fun t w1 hf hk hp => ?_, ?_⟩
        · have h49 : slot t 49 = .bool true := hp 49 (by kernel_rfl)
          have h57 : slot t 57 = .bool true := hp 57 (by kernel_rfl)
          clear hf hp
          refine stepAt_plain rfl ?_
          refine stepOK_pure (.bool true) ?_ rfl
          simp only [execOp, evS, h49, h57]
          go_simp
        refine ⟨fun t w1 hf hk hp => ?_, ?_⟩
        · have h58 : slot t 58 = .bool true := hp 58 (by kernel_rfl)
          clear hf hp
          refine stepAt_plain rfl ?_
          exact stepOK_move _ (.inl rfl) h58
        refine ⟨fun t w1 hf hk hp => ?_, ?_⟩
        · have h59 : slot t 59 = .bool true := hp 59 (by kernel_rfl)
          clear hf hp
          refine stepAt_on 59 true (by kernel_rfl) h59 ?_
          refine stepOK_call #[] rfl (by simp only [List.map_toArray, List.map_nil]) (by go_simp) ((HA.out w1 (HT.out.kept hk)).mono fun e w' ⟨he, hk'⟩ => ⟨_, he, hk', rfl⟩)
        refine ⟨fun t w1 hf hk hp => ?_, ?_⟩
        · have h59 : slot t 59 = .bool true := hp 59 (by kernel_rfl)
          have h60 : slot t 60 = .bool true := hp 60 (by kernel_rfl)
          clear hf hp
          refine stepAt_plain rfl ?_
          refine stepOK_pure (.bool true) ?_ rfl
          simp only [execOp, evS, h59, h60]
          go_simp
        refine ⟨fun t w1 hf hk hp => ?_, ?_⟩
        · have h61 : slot t 61 = .bool true := hp 61 (by kernel_rfl)
          clear hf hp
          refine stepAt_plain rfl ?_
          exact stepOK_move _ (.inr rfl) h61
        exact trivial
      · intro t w1 hsz hf hk hfacts
        have h6 : slot t 6 = .bool true := hfacts 21 _ rfl 6 rfl
        have h0 : slot t 0 = .slice (some q) n0 c0 := hf 0 (by kernel_rfl)
        have h1 : slot t 1 = .int .i64 (k : Int) := hf 1 (by kernel_rfl)
        have h5 : slot t 5 = .pointer (some ⟨w.heap.size, 0, none⟩) := hf 5 (by kernel_rfl)
        have h7 : slot t 7 = .pointer (some ⟨g7, 0, none⟩) := hf 7 (by kernel_rfl)
        have harr : t = #[slot t 0, slot t 1, slot t 2, slot t 3, slot t 4, slot t 5, slot t 6, slot t 7, slot t 8, slot t 9, slot t 10, slot t 11, slot t 12, slot t 13, slot t 14, slot t 15, slot t 16, slot t 17, slot t 18, slot t 19, slot t 20, slot t 21, slot t 22, slot t 23, slot t 24, slot t 25, slot t 26, slot t 27, slot t 28, slot t 29, slot t 30, slot t 31, slot t 32, slot t 33, slot t 34, slot t 35, slot t 36, slot t 37, slot t 38, slot t 39, slot t 40, slot t 41, slot t 42, slot t 43, slot t 44, slot t 45, slot t 46, slot t 47, slot t 48, slot t 49, slot t 50, slot t 51, slot t 52, slot t 53, slot t 54, slot t 55, slot t 56, slot t 57, slot t 58, slot t 59, slot t 60, slot t 61] := arr_eq t 62 hsz
        rw [harr, h6, h0, h1, h5, h7]
        clear harr hfacts hf h6 h0 h1 h5 h7
        generalize slot t 2 = x2; generalize slot t 3 = x3; generalize slot t 4 = x4; generalize slot t 8 = x8; generalize slot t 9 = x9; generalize slot t 10 = x10; generalize slot t 11 = x11; generalize slot t 12 = x12; generalize slot t 13 = x13; generalize slot t 14 = x14; generalize slot t 15 = x15; generalize slot t 16 = x16
        generalize slot t 17 = x17; generalize slot t 18 = x18; generalize slot t 19 = x19; generalize slot t 20 = x20; generalize slot t 21 = x21; generalize slot t 22 = x22; generalize slot t 23 = x23; generalize slot t 24 = x24; generalize slot t 25 = x25; generalize slot t 26 = x26; generalize slot t 27 = x27; generalize slot t 28 = x28
        generalize slot t 29 = x29; generalize slot t 30 = x30; generalize slot t 31 = x31; generalize slot t 32 = x32; generalize slot t 33 = x33; generalize slot t 34 = x34; generalize slot t 35 = x35; generalize slot t 36 = x36; generalize slot t 37 = x37; generalize slot t 38 = x38; generalize slot t 39 = x39; generalize slot t 40 = x40
        generalize slot t 41 = x41; generalize slot t 42 = x42; generalize slot t 43 = x43; generalize slot t 44 = x44; generalize slot t 45 = x45; generalize slot t 46 = x46; generalize slot t 47 = x47; generalize slot t 48 = x48; generalize slot t 49 = x49; generalize slot t 50 = x50; generalize slot t 51 = x51; generalize slot t 52 = x52
        generalize slot t 53 = x53; generalize slot t 54 = x54; generalize slot t 55 = x55; generalize slot t 56 = x56; generalize slot t 57 = x57; generalize slot t 58 = x58; generalize slot t 59 = x59; generalize slot t 60 = x60; generalize slot t 61 = x61
        clear hsz t
        have KE := Lib.hid (K1.out.trans hk)
        clear hk
        go_wp2_with fail
        go_ret
        exact ⟨rfl, KE.out⟩
    · have HE : Hid (otE S0 n0 (k : Int) = mayT S0 n0) := Lib.hid (if_neg hm)
      rw [HE.out] at C1
      have e1 : (mayT S0 n0 == 0) = false := by simp [hm]
      have e2 : (mayT S0 n0 != 0) = true := by simp [hm]
      generalize (otL S0 n0 (k : Int)).length = m at C1
      generalize lh (otL S0 n0 (k : Int)) = G at C1
      generalize otI S0 n0 (k : Int) = I at C1
      generalize otC S0 n0 (k : Int) = N at C1
      generalize mayT S0 n0 = E at C1 C3 e1 e2 hm
      clear hz6 hz hz01 hi0 hi1 C5 HE hl2
      go_wp2_with fail
      refine C1.out.mono ?_
      rintro e v2 ⟨qa, ca, rfl, hp, k2⟩
      have K2 := Lib.hid k2
      clear hp k2 C1
      go_wp2_with (refine wpList_store_made rfl 27 _ _ rfl _ _ #[.int .i64 I, .int .i64 N, .slice qa m ca] rfl rfl 27 _ rfl (opR_size _ _ _) rfl (opR_one _ _ _ _ _) ?_; intro v3 R7 k3)
      replace K2 := Lib.hid (K2.out.trans k3.out)
      refine (C3.out v3 (SSl.kept _ _ _ _ _ K2.out X0.out)).mono ?_
      rintro e v4 ⟨rfl, k4⟩
      replace K2 := Lib.hid (K2.out.trans k4)
      clear k3 k4 C3
      go_wp2_with fail
      refine (HA.out v4 (HT.out.kept K2.out)).mono ?_
      rintro e v5 ⟨rfl, k5⟩
      replace K2 := Lib.hid (K1.out.trans (K2.out.trans k5))
      go_wp2_with fail
      go_ret
      exact ⟨rfl, K2.out⟩
  · cases B
    · have hgo' : ¬ (n0 ≤ 60 ∧ 0 ≤ a1 ∧ a1 < (n0 : Int)) := fun h => hgo ⟨rfl, h⟩
      have g0 : Hid ((decide ((n0 : Int) > 60) = true ∧ decide (60 < n0) = true) ∨ (decide ((n0 : Int) > 60) = false ∧ decide (a1 < 0) = true) ∨ (decide ((n0 : Int) > 60) = false ∧ decide (a1 < 0) = false ∧ decide (a1 ≥ (n0 : Int)) = true)) := Lib.hid (by
        by_cases h : 60 < n0
        · exact .inl ⟨decide_eq_true (by omega), decide_eq_true h⟩
        · by_cases h2 : a1 < 0
          · exact .inr (.inl ⟨decide_eq_false (by omega), decide_eq_true h2⟩)
          · exact .inr (.inr ⟨decide_eq_false (by omega), decide_eq_false h2, decide_eq_true (by omega)⟩))
      clear hgo hgo' hB
      rcases g0.out with ⟨g1, g2⟩ | ⟨g1, g2⟩ | ⟨g1, g2, g3⟩
      all_goals
        have g1' := g1
        simp only [gt_iff_lt] at g1'
        (try have g3' := g3; simp only [ge_iff_le] at g3')
        go_wp2_with fail
        refine (HA.out v1 HT.out).mono ?_
        rintro e v2 ⟨rfl, k2⟩
        have K2 := Lib.hid (K1.out.trans k2)
        go_wp2_with fail
        go_ret
        exact ⟨rfl, K2.out⟩
    · clear hgo hB
      go_wp2_with fail
      refine (HA.out v1 HT.out).mono ?_
      rintro e v2 ⟨rfl, k2⟩
      have K2 := Lib.hid (K1.out.trans k2)
      go_wp2_with fail
      go_ret
      exact ⟨rfl, K2.out⟩

set_option maxRecDepth 100000 in
set_option maxHeartbeats 1000000 in
theorem lifted (os : Os) (started : os.Started) (H : Type) (enc : TypeId × Value → H) :
    ReturnsInHanded {} Tryd.checked os 5 .any (fun w args => (Rows.txsApartSpec.pre enc Tryd.prog Tryd.f5 [] false w args ∧ laidMetH Tryd.prog Rows.txsApartRow.laid w) ∧ sizedMet enc Tryd.prog Tryd.f5 (OpenSpec.ofChange Rows.txsApartSpec) false w args)
      (Rows.txsApartSpec.post enc Tryd.prog Tryd.f5 false true false false) := by
  refine returnsInHanded_of_change_and (C := Tryd.checked) (X := fun w _ => laidMetH Tryd.prog Rows.txsApartRow.laid w) (fun _ _ _ hh h => h.of_heap hh) own started (by kernel_rfl) Tryd.func5
    (ChangeSpec.witness_shaped (enc := enc) (C := Tryd.checked) (os := os) (X := fun w _ => laidMetH Tryd.prog Rows.txsApartRow.laid w) false (World.doorLaid Tryd.prog 400 os) #[.slice none 0 0, .int .i64 0, .agg #[.int .u8 0, .int .u8 0, .int .u8 0, .int .u8 0, .int .u8 0, .int .u8 0, .int .u8 0, .int .u8 0, .int .u8 0, .int .u8 0, .int .u8 0, .int .u8 0, .int .u8 0, .int .u8 0, .int .u8 0, .int .u8 0, .int .u8 0, .int .u8 0, .int .u8 0, .int .u8 0, .int .u8 0, .int .u8 0, .int .u8 0, .int .u8 0, .int .u8 0, .int .u8 0, .int .u8 0, .int .u8 0, .int .u8 0, .int .u8 0, .int .u8 0, .int .u8 0]] 8 rfl (World.shaped_of_RefB (by kernel_rfl) (by kernel_rfl)) (by kernel_rfl) (by kernel_rfl) (by kernel_rfl) (door_met os _)) ?_
  intro W base args ds gs before hval0 hW _ hsz0 hL _
  have hval : ∀ (j : Nat) t v, Tryd.f5.params[j]? = some t → args[j]? = some v → Value.okWide Tryd.prog W .any base t v := hval0
  have hsz : (DataW.weightsEach Tryd.prog (Tryd.f5.params.toList ++ Rows.txsApartSpec.plain.varTypes Tryd.prog) (ds ++ gs)).all (· ≤ reachBytes) = true := hsz0
  have hW' := hW
  obtain ⟨p, q, hA0, hV, rfl, hfz, hnd⟩ := hW
  have hA : DataW.TrodAll enc Tryd.prog W 0 (fun _ => true) true Tryd.f5.params.toList args.toList ds p := hA0
  have hAk := hA
  rw [Tryd.params5] at hA hval hsz
  obtain ⟨v0, vs0, d0, ds0, p0_, q0_, hargs, rfl, rfl, h0, r0_⟩ := trodAll_cons hA
  obtain ⟨v1, vs1, d1, ds1, p1_, q1_, rfl, rfl, rfl, h1, r1_⟩ := trodAll_cons r0_
  obtain ⟨v2, vs2, d2, ds2, p2_, q2_, rfl, rfl, rfl, h2, r2_⟩ := trodAll_cons r1_
  obtain ⟨rfl, rfl, rfl⟩ := trodAll_nil r2_
  obtain rfl : args = #[v0, v1, v2] := by cases args; simp_all
  obtain ⟨rfl, rfl⟩ := trodVars_none hV
  have hlt : ∀ x ∈ (p0_ ++ (p1_ ++ (p2_ ++ ([])))), x.block < W.heap.size := fun x hx => by simpa using hW'.lt x (by simpa using hx)
  obtain ⟨p0, n0, c0, S0, z0, rfl, e0, rr0⟩ := open_sslice Tryd.underlying22 Tryd.underlying9 (by kernel_rfl) (hval 0 22 v0 rfl rfl) h0
  obtain ⟨a1, rfl, rfl, rfl, w1⟩ := open_int Tryd.underlying3 (hval 1 3 v1 rfl rfl) h1
  obtain ⟨cs2, rfl⟩ : ∃ cs, v2 = .agg cs := by
    have := hval 2 34 v2 rfl rfl
    simp only [Value.okWide, Tryd.underlying34] at this
    obtain ⟨cs, h, _⟩ := this
    exact ⟨cs, h⟩
  obtain ⟨a2, n2, rfl⟩ := open_hash Tryd.underlying34 Tryd.underlying5 (by kernel_rfl) (by kernel_rfl) h2
  have r0 := (rr0 hsz (J := 0) rfl rfl).2
  clear hA0 hval0
  refine (walk p0 n0 c0 S0 z0 r0 a1 w1 a2 n2 W e0 (tab_of_laid hL)).mono fun e W' ⟨he, hg⟩ => ?_
  subst he
  exact ⟨_, rfl, ⟨_, _, _, [], _, [], hW', trodAll_cons_mk (shut_bool Tryd.underlying4 _) trodAll_mk0, trodAll_stays laidOut hg (by kernel_rfl) hAk hlt (fun x hx => by simpa using hlt x hx), rfl, Kept.frame hg _, fun h => by cases h⟩⟩

theorem over : Rows.txsApartRow.holds Tryd.pinned (OpenSpec.ofChange Rows.txsApartSpec) :=
  OpenClaim.holds_of_wide 5 Tryd.f5 rfl rfl rfl rfl rfl rfl rfl ⟨rfl, rfl, rfl, rfl, rfl⟩ rfl rfl rfl rfl rfl (by kernel_rfl) Tryd.func5 (by kernel_rfl)
    (of_decide_eq_true (by kernel_rfl)) (by unfold Func.isWrapper; first | (rw [if_pos (by decide +kernel)]; kernel_rfl) | (rw [if_neg (by decide +kernel)]; exact ⟨rfl, rfl⟩))
    (fun os started H enc _ => lifted os started H enc)
end Go.Proofs.YtcbcjiaedoeaeaaDoor.txsApart
namespace Go.Proofs.YtcbcjiaedoeaeaaDoor
theorem txsApart_holds : Rows.TxsApartSaid := txsApart.over
theorem txsApart_card : Rows.TxsApartCardSaid :=
  Claim7.holds_tied_plain_at .later [] [.data] true (true, "b2ada0222238b61a593490755c687325dba9eef29d1dcfe40011fc54ec8c5a67") false
    txsApart_holds (fun _ h => by cases h) (by kernel_rfl) (fun _ h => by cases h) txsApart_row_tie rfl ⟨rfl, rfl⟩ (by kernel_rfl) rfl
    (fun f fn hf hfn => by
      obtain rfl : f = 5 := Option.some.inj ((show Tryd.prog.funcNamed "milepost/milepostlaw22.TxsApart" = some 5 by kernel_rfl).symm.trans hf) |>.symm
      obtain rfl : fn = Tryd.f5 := (Option.some.inj (Tryd.func5.symm.trans hfn)).symm
      refine ⟨by kernel_rfl, fun j t ht => ?_⟩
      have hm : t ∈ Tryd.f5.params.toList := by simpa using Array.mem_of_getElem? ht
      have hall : (Tryd.f5.params.toList.all fun u => !Tryd.prog.wantsStandIn u) = true := by kernel_rfl
      exact (show Tryd.prog.wantsStandIn t = false by simpa using List.all_eq_true.1 hall t hm))
    (by kernel_rfl)
#print axioms txsApart_card
end Go.Proofs.YtcbcjiaedoeaeaaDoor
