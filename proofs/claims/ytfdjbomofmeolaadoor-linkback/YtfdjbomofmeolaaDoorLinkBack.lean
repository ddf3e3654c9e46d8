/-
  What is opened of any vector is checked, unless the vector has more than 257 entries; chapter 21's example holds: 'LinkBack' returns true.
  Conditions: those of the given card (sha's table of round constants as the program's text lays it).
-/
import Derived.Test.YtfdjbomofmeolaaDoorRows
import Derived.Test.YtfdjbomofmeolaaDoorLinkLaw
import Derived.Test.YtfdjbomofmeolaaDoorOpe
import Derived.WalkKit
import Derived.ProofKit
import Derived.OpenShut
import Derived.ShutString
import Derived.SizedLaws
import Derived.Test.YtfdjbomofmeolaaDoorBas
import Derived.LaidMore
import Derived.SevenTiedAt
import Derived.Test.YtfdjbomofmeolaaDoorCards
import Derived.Test.YtfdjbomofmeolaaDoorTie
import Derived.Test.YtfdjbomofmeolaaDoorShb
namespace Go.Proofs.YtfdjbomofmeolaaDoor.linkBack
open Go.ChangeShapes Go.WideShapes Go.ChangeAt Go.RowKit
open Go.ChangeMaps (open_string shut_string)
set_option linter.unusedVariables false

theorem own : ownKnob Tryd.prog.godebug = none := by kernel_rfl
theorem laidOut : laidOutB Tryd.prog = true := by kernel_rfl

set_option maxRecDepth 100000 in
set_option maxHeartbeats 4000000 in
theorem walk (p0 : Option Addr) (n0 c0 : Nat) (F0 : Nat → List UInt8) (z0 : n0 ≤ c0 ∧ c0 ≤ maxLen) (a1 : Int) (w1 : (Lit.int .i64 a1).wf = true) (w : World) (e0 : HAt w p0 n0 F0) (hT : Tab w) :
    Calls Tryd.prog 5 #[.slice p0 n0 c0, .int .i64 a1] w fun e w' => e = .returned (.bool true) ∧ Kept w w' := by
  have HT := Lib.hid hT
  have HA : Hid (∀ w, Tab w → _) := Lib.hid fun w ht => awake21_any w ht
  by_cases hn : ¬ (n0 ≤ 300 ∧ 0 ≤ a1 ∧ a1 < (n0 : Int))
  · have g0 : Hid (decide ((n0 : Int) > 300) = true ∨ (decide ((n0 : Int) > 300) = false ∧ decide (a1 < 0) = true) ∨ (decide ((n0 : Int) > 300) = false ∧ decide (a1 < 0) = false ∧ decide (a1 ≥ (n0 : Int)) = true)) := Lib.hid (by
      by_cases h : n0 ≤ 300
      · by_cases h2 : a1 < 0
        · exact .inr (.inl ⟨decide_eq_false (by omega), decide_eq_true h2⟩)
        · exact .inr (.inr ⟨decide_eq_false (by omega), decide_eq_false h2, decide_eq_true (by omega)⟩)
      · exact .inl (decide_eq_true (by omega)))
    clear e0 z0 hn hT w1
    rcases g0.out with g1 | ⟨g1, g2⟩ | ⟨g1, g2, g3⟩
    all_goals
      have g1' := g1
      simp only [gt_iff_lt] at g1'
      (try have g3' := g3; simp only [ge_iff_le] at g3')
      go_enter Tryd.func5, Tryd.ntmps5
      go_wp2_with fail
      refine (HA.out _ HT.out).mono ?_
      rintro e v1 ⟨rfl, k1⟩
      have K1 := Lib.hid k1
      go_wp2_with fail
      go_ret
      exact ⟨rfl, K1.out⟩
  · obtain ⟨h300, hi0, hi1⟩ : n0 ≤ 300 ∧ 0 ≤ a1 ∧ a1 < (n0 : Int) := by omega
    have hd1 : decide ((n0 : Int) > 300) = false := decide_eq_false (by omega)
    have hd1' : decide ((300 : Int) < (n0 : Int)) = false := decide_eq_false (by omega)
    obtain ⟨k, rfl⟩ : ∃ k : Nat, a1 = (k : Int) := ⟨a1.toNat, by omega⟩
    have hk0 : k < n0 := by omega
    have hd2 : decide ((k : Int) < 0) = false := decide_eq_false (by omega)
    have hd3 : decide ((k : Int) ≥ (n0 : Int)) = false := decide_eq_false (by omega)
    have hd3' : decide ((n0 : Int) ≤ (k : Int)) = false := decide_eq_false (by omega)
    have X0 := Lib.hid (show HSl n0 F0 (.slice p0 n0 c0) w from ⟨p0, c0, rfl, z0.1, z0.2, e0⟩)
    have hl := e0.length k hk0
    have C1 := Lib.hid (linkOpen_any n0 F0 (.slice p0 n0 c0) w (k : Int) X0.out (by omega) hT)
    have C4 : Hid (∀ w, HSl n0 F0 (.slice p0 n0 c0) w → Tab w → _) := Lib.hid fun w hv ht => linkRoot_any n0 F0 (.slice p0 n0 c0) w hv (by omega) ht
    have HR32 : (rootL (lkS F0) n0).length = 32 := shaL_length _
    obtain ⟨B, hB⟩ : ∃ B, B = decide (n0 ≤ 257) := ⟨_, rfl⟩
    have C5 : Hid (∀ v w, HSl (opL (lkS F0) n0 (k : Int)).length (lh (opL (lkS F0) n0 (k : Int))) v w → Tab w → Calls Tryd.prog 15 #[.agg (bC 32 (rootL (lkS F0) n0)), .agg (bC 32 (F0 k)), .agg #[.int .i64 (opI n0 (k : Int)), .int .i64 (opC n0 (k : Int)), v]] w fun e w' => e = .returned (.bool B) ∧ Kept w w') := Lib.hid fun v w hv ht => by
      have := linkCheck_any (rootL (lkS F0) n0) (F0 k) (opI n0 (k : Int)) (opC n0 (k : Int)) _ _ v w HR32 hl hv ht
      have hck : ckO (rootL (lkS F0) n0) (linkS (F0 k)) (opI n0 (k : Int)) (opC n0 (k : Int)) (opL (lkS F0) n0 (k : Int)).length (lh (opL (lkS F0) n0 (k : Int))) = true :=
        decide_eq_true ⟨may_opL _ n0 k ⟨hi0, hi1⟩ (by omega), rt_opL (lkS F0) n0 k ⟨hi0, hi1⟩ (by omega)⟩
      have hN : decide (opC n0 (k : Int) ≤ 257) = B := by
        rw [hB, opC, if_pos ⟨hi0, hi1⟩]
        exact decide_eq_decide.2 (by omega)
      rwa [hck, hN, Bool.and_true] at this
    have hE : opE n0 (k : Int) = 0 := by rw [opE, if_pos ⟨hi0, hi1⟩]
    rw [hE] at C1
    have hB2 : decide ((n0 : Int) ≤ 257) = B := by rw [hB]; exact decide_eq_decide.2 (by omega)
    have hBB : (B == B) = true := by simp
    generalize (opL (lkS F0) n0 (k : Int)).length = m at C1 C5
    generalize lh (opL (lkS F0) n0 (k : Int)) = G at C1 C5
    generalize opI n0 (k : Int) = I at C1 C5
    generalize opC n0 (k : Int) = N at C1 C5
    generalize rootL (lkS F0) n0 = r at C4 C5 HR32
    have hF := Lib.hid e0
    have hsz : ∀ v : Value, (#[.int .i64 I, .int .i64 N, v] : Array Value).size = 3 := fun _ => rfl
    obtain ⟨q, rfl, _⟩ := e0.some (by omega)
    clear e0 z0 hT hn w1 hB hE hi0 hi1
    go_enter Tryd.func5, Tryd.ntmps5
    go_wp2_with fail
    refine C1.out.mono ?_
    rintro e v1 ⟨qa, ca, rfl, hp, k1⟩
    have PA := Lib.hid hp
    have K1 := Lib.hid k1
    clear hp k1 C1
    go_wp2_with (refine wpList_store_made rfl 25 _ _ rfl _ _ #[.int .i64 I, .int .i64 N, .slice qa m ca] rfl rfl 25 _ rfl (opR_size _ _ _) rfl (opR_one _ _ _ _ _) ?_; intro v2 R5 k2)
    obtain ⟨g5, hg5⟩ : ∃ g, g = v1.heap.size := ⟨_, rfl⟩
    rw [← hg5] at R5 ⊢
    clear hg5
    replace PA := Lib.hid (HSl.kept _ _ _ _ _ k2.out PA.out)
    replace K1 := Lib.hid (K1.out.trans k2.out)
    replace X0 := Lib.hid (HSl.kept _ _ _ _ _ K1.out X0.out)
    replace HT := Lib.hid (HT.out.kept K1.out)
    replace hF := Lib.hid (hF.out.kept K1.out)
    clear k2
    go_wp2_with fail
    refine wp_region_table [(27, .is (.int .i64 0)), (28, .is (.bool true)), (29, .is (.bool true)), (30, .is (.slice (some q) n0 c0)), (31, .is (.agg (bC 32 r))), (32, .is (.slice (some q) n0 c0)), (33, .is (.int .i64 (k : Int))), (34, .is (.pointer (some (q.add (k * 32))))), (35, .is (.agg (bC 32 (F0 k)))), (36, .is (.agg #[.int .i64 I, .int .i64 N, .slice qa m ca])), (37, .is (.bool B)), (38, .is (.slice (some q) n0 c0)), (39, .is (.int .i64 (n0 : Int))), (40, .is (.bool B)), (41, .is (.bool true)), (42, .is (.bool true)), (43, .is (.bool true)), (44, .is (.bool true)), (45, .is (.bool true)), (4, .is (.bool true))] (by kernel_rfl) (by kernel_rfl) ?_ ?_
    · refine ⟨fun t w1 hf hk hp => ?_, ?_⟩
      · have h6 : slot t 6 = .int .i64 0 := hf 6 (by kernel_rfl)
        clear hf hp
        refine stepAt_plain rfl ?_
        exact stepOK_move _ (.inl rfl) h6
      refine ⟨fun t w1 hf hk hp => ?_, ?_⟩
      · have h27 : slot t 27 = .int .i64 0 := hp 27 (by kernel_rfl)
        clear hf hp
        refine stepAt_plain rfl ?_
        refine stepOK_pure (.bool true) ?_ rfl
        simp only [execOp, evS, h27]
        go_simp
      refine ⟨fun t w1 hf hk hp => ?_, ?_⟩
      · have h28 : slot t 28 = .bool true := hp 28 (by kernel_rfl)
        clear hf hp
        refine stepAt_plain rfl ?_
        exact stepOK_move _ (.inl rfl) h28
      refine ⟨fun t w1 hf hk hp => ?_, ?_⟩
      · have h0 : slot t 0 = .slice (some q) n0 c0 := hf 0 (by kernel_rfl)
        have h29 : slot t 29 = .bool true := hp 29 (by kernel_rfl)
        clear hf hp
        refine stepAt_on 29 true (by kernel_rfl) h29 ?_
        exact stepOK_move _ (.inl rfl) h0
      refine ⟨fun t w1 hf hk hp => ?_, ?_⟩
      · have h30 : slot t 30 = .slice (some q) n0 c0 := hp 30 (by kernel_rfl)
        have h29 : slot t 29 = .bool true := hp 29 (by kernel_rfl)
        clear hf hp
        refine stepAt_on 29 true (by kernel_rfl) h29 ?_
        refine stepOK_call #[.slice (some q) n0 c0] rfl (by simp only [List.map_toArray, List.map_cons, List.map_nil, evS, h30]) (by go_simp) ((C4.out w1 (HSl.kept _ _ _ _ _ hk X0.out) (HT.out.kept hk)).mono fun e w' ⟨he, hk'⟩ => ⟨_, he, hk', rfl⟩)
      refine ⟨fun t w1 hf hk hp => ?_, ?_⟩
      · have h0 : slot t 0 = .slice (some q) n0 c0 := hf 0 (by kernel_rfl)
        have h29 : slot t 29 = .bool true := hp 29 (by kernel_rfl)
        clear hf hp
        refine stepAt_on 29 true (by kernel_rfl) h29 ?_
        exact stepOK_move _ (.inl rfl) h0
      refine ⟨fun t w1 hf hk hp => ?_, ?_⟩
      · have h1 : slot t 1 = .int .i64 (k : Int) := hf 1 (by kernel_rfl)
        have h29 : slot t 29 = .bool true := hp 29 (by kernel_rfl)
        clear hf hp
        refine stepAt_on 29 true (by kernel_rfl) h29 ?_
        exact stepOK_move _ (.inl rfl) h1
      refine ⟨fun t w1 hf hk hp => ?_, ?_⟩
      · have h32 : slot t 32 = .slice (some q) n0 c0 := hp 32 (by kernel_rfl)
        have h33 : slot t 33 = .int .i64 (k : Int) := hp 33 (by kernel_rfl)
        have h29 : slot t 29 = .bool true := hp 29 (by kernel_rfl)
        clear hf hp
        refine stepAt_on 29 true (by kernel_rfl) h29 ?_
        exact stepOK_pure (.pointer (some (q.add (k * 32)))) (execIndexH q n0 c0 k hk0 w1 rfl h32 h33) rfl
      refine ⟨fun t w1 hf hk hp => ?_, ?_⟩
      · have h34 : slot t 34 = .pointer (some (q.add (k * 32))) := hp 34 (by kernel_rfl)
        have h29 : slot t 29 = .bool true := hp 29 (by kernel_rfl)
        clear hf hp
        refine stepAt_on 29 true (by kernel_rfl) h29 ?_
        exact stepOK_pure (.agg (bC 32 (F0 k))) (load_at k rfl h34 (hF.out.kept hk) hk0) rfl
      refine ⟨fun t w1 hf hk hp => ?_, ?_⟩
      · have h5 : slot t 5 = .pointer (some ⟨g5, 0, none⟩) := hf 5 (by kernel_rfl)
        have h29 : slot t 29 = .bool true := hp 29 (by kernel_rfl)
        clear hf hp
        refine stepAt_on 29 true (by kernel_rfl) h29 ?_
        exact stepOK_pure (.agg #[.int .i64 I, .int .i64 N, .slice qa m ca]) (loadO rfl h5 (R5.out.kept hk) (hsz _)) rfl
      refine ⟨fun t w1 hf hk hp => ?_, ?_⟩
      · have h31 : slot t 31 = .agg (bC 32 r) := hp 31 (by kernel_rfl)
        have h35 : slot t 35 = .agg (bC 32 (F0 k)) := hp 35 (by kernel_rfl)
        have h36 : slot t 36 = .agg #[.int .i64 I, .int .i64 N, .slice qa m ca] := hp 36 (by kernel_rfl)
        have h29 : slot t 29 = .bool true := hp 29 (by kernel_rfl)
        clear hf hp
        refine stepAt_on 29 true (by kernel_rfl) h29 ?_
        refine stepOK_call #[.agg (bC 32 r), .agg (bC 32 (F0 k)), .agg #[.int .i64 I, .int .i64 N, .slice qa m ca]] rfl (by simp only [List.map_toArray, List.map_cons, List.map_nil, evS, h31, h35, h36]) (by go_simp) ((C5.out _ w1 (HSl.kept _ _ _ _ _ hk PA.out) (HT.out.kept hk)).mono fun e w' ⟨he, hk'⟩ => ⟨_, he, hk', rfl⟩)
      refine ⟨fun t w1 hf hk hp => ?_, ?_⟩
      · have h0 : slot t 0 = .slice (some q) n0 c0 := hf 0 (by kernel_rfl)
        have h29 : slot t 29 = .bool true := hp 29 (by kernel_rfl)
        clear hf hp
        refine stepAt_on 29 true (by kernel_rfl) h29 ?_
        exact stepOK_move _ (.inl rfl) h0
      refine ⟨fun t w1 hf hk hp => ?_, ?_⟩
      · have h38 : slot t 38 = .slice (some q) n0 c0 := hp 38 (by kernel_rfl)
        have h29 : slot t 29 = .bool true := hp 29 (by kernel_rfl)
        clear hf hp
        refine stepAt_on 29 true (by kernel_rfl) h29 ?_
        exact stepOK_pure (.int .i64 (n0 : Int)) (execLenHs (n := n0) w1 rfl h38) rfl
      refine ⟨fun t w1 hf hk hp => ?_, ?_⟩
      · have h39 : slot t 39 = .int .i64 (n0 : Int) := hp 39 (by kernel_rfl)
        have h29 : slot t 29 = .bool true := hp 29 (by kernel_rfl)
        clear hf hp
        refine stepAt_on 29 true (by kernel_rfl) h29 ?_
        have hq0 := hB2
        refine stepOK_pure (.bool B) ?_ rfl
        simp only [execOp, evS, h39]
        go_simp
      refine ⟨fun t w1 hf hk hp => ?_, ?_⟩
      · have h37 : slot t 37 = .bool B := hp 37 (by kernel_rfl)
        have h40 : slot t 40 = .bool B := hp 40 (by kernel_rfl)
        have h29 : slot t 29 = .bool true := hp 29 (by kernel_rfl)
        clear hf hp
        refine stepAt_on 29 true (by kernel_rfl) h29 ?_
        have hq0 := hBB
        refine stepOK_pure (.bool true) ?_ rfl
        simp only [execOp, evS, h37, h40]
        go_simp
      refine ⟨fun t w1 hf hk hp => ?_, ?_⟩
      · have h29 : slot t 29 = .bool true := hp 29 (by kernel_rfl)
        have h41 : slot t 41 = .bool true := hp 41 (by kernel_rfl)
        clear hf hp
        refine stepAt_plain rfl ?_
        refine stepOK_pure (.bool true) ?_ rfl
        simp only [execOp, evS, h29, h41]
        go_simp
      refine ⟨fun t w1 hf hk hp => ?_, ?_⟩
      · have h42 : slot t 42 = .bool true := hp 42 (by kernel_rfl)
        clear hf hp
        refine stepAt_plain rfl ?_
        exact stepOK_move _ (.inl rfl) h42
      refine ⟨fun t w1 hf hk hp => ?_, ?_⟩
      · have h43 : slot t 43 = .bool true := hp 43 (by kernel_rfl)
        clear hf hp
        refine stepAt_on 43 true (by kernel_rfl) h43 ?_
        refine stepOK_call #[] rfl (by simp only [List.map_toArray, List.map_nil]) (by go_simp) ((HA.out w1 (HT.out.kept hk)).mono fun e w' ⟨he, hk'⟩ => ⟨_, he, hk', rfl⟩)
      refine ⟨fun t w1 hf hk hp => ?_, ?_⟩
      · have h43 : slot t 43 = .bool true := hp 43 (by kernel_rfl)
        have h44 : slot t 44 = .bool true := hp 44 (by kernel_rfl)
        clear hf hp
        refine stepAt_plain rfl ?_
        refine stepOK_pure (.bool true) ?_ rfl
        simp only [execOp, evS, h43, h44]
        go_simp
      refine ⟨fun t w1 hf hk hp => ?_, ?_⟩
      · have h45 : slot t 45 = .bool true := hp 45 (by kernel_rfl)
        clear hf hp
        refine stepAt_plain rfl ?_
        exact stepOK_move _ (.inr rfl) h45
      exact trivial
    · intro t w1 hsz hf hk hfacts
      have h4 : slot t 4 = .bool true := hfacts 19 _ rfl 4 rfl
      have h0 : slot t 0 = .slice (some q) n0 c0 := hf 0 (by kernel_rfl)
      have h1 : slot t 1 = .int .i64 (k : Int) := hf 1 (by kernel_rfl)
      have h5 : slot t 5 = .pointer (some ⟨g5, 0, none⟩) := hf 5 (by kernel_rfl)
      have h6 : slot t 6 = .int .i64 0 := hf 6 (by kernel_rfl)
      have harr : t = #[slot t 0, slot t 1, slot t 2, slot t 3, slot t 4, slot t 5, slot t 6, slot t 7, slot t 8, slot t 9, slot t 10, slot t 11, slot t 12, slot t 13, slot t 14, slot t 15, slot t 16, slot t 17, slot t 18, slot t 19, slot t 20, slot t 21, slot t 22, slot t 23, slot t 24, slot t 25, slot t 26, slot t 27, slot t 28, slot t 29, slot t 30, slot t 31, slot t 32, slot t 33, slot t 34, slot t 35, slot t 36, slot t 37, slot t 38, slot t 39, slot t 40, slot t 41, slot t 42, slot t 43, slot t 44, slot t 45] := arr_eq t 46 hsz
      rw [harr, h4, h0, h1, h5, h6]
      clear harr hfacts hf h4 h0 h1 h5 h6
      generalize slot t 2 = x2; generalize slot t 3 = x3; generalize slot t 7 = x7; generalize slot t 8 = x8; generalize slot t 9 = x9; generalize slot t 10 = x10; generalize slot t 11 = x11; generalize slot t 12 = x12; generalize slot t 13 = x13; generalize slot t 14 = x14; generalize slot t 15 = x15; generalize slot t 16 = x16
      generalize slot t 17 = x17; generalize slot t 18 = x18; generalize slot t 19 = x19; generalize slot t 20 = x20; generalize slot t 21 = x21; generalize slot t 22 = x22; generalize slot t 23 = x23; generalize slot t 24 = x24; generalize slot t 25 = x25; generalize slot t 26 = x26; generalize slot t 27 = x27; generalize slot t 28 = x28
      generalize slot t 29 = x29; generalize slot t 30 = x30; generalize slot t 31 = x31; generalize slot t 32 = x32; generalize slot t 33 = x33; generalize slot t 34 = x34; generalize slot t 35 = x35; generalize slot t 36 = x36; generalize slot t 37 = x37; generalize slot t 38 = x38; generalize slot t 39 = x39; generalize slot t 40 = x40
      generalize slot t 41 = x41; generalize slot t 42 = x42; generalize slot t 43 = x43; generalize slot t 44 = x44; generalize slot t 45 = x45
      clear hsz t
      have KE := Lib.hid (K1.out.trans hk)
      clear hk
      go_wp2_with fail
      go_ret
      exact ⟨rfl, KE.out⟩

set_option maxRecDepth 100000 in
set_option maxHeartbeats 1000000 in
theorem lifted (os : Os) (started : os.Started) (H : Type) (enc : TypeId × Value → H) :
    ReturnsInHanded {} Tryd.checked os 5 .any (fun w args => (Rows.linkBackSpec.pre enc Tryd.prog Tryd.f5 [] false w args ∧ laidMetH Tryd.prog Rows.linkBackRow.laid w) ∧ sizedMet enc Tryd.prog Tryd.f5 (OpenSpec.ofChange Rows.linkBackSpec) false w args)
      (Rows.linkBackSpec.post enc Tryd.prog Tryd.f5 false true false false) := by
  refine returnsInHanded_of_change_and (C := Tryd.checked) (X := fun w _ => laidMetH Tryd.prog Rows.linkBackRow.laid w) (fun _ _ _ hh h => h.of_heap hh) own started (by kernel_rfl) Tryd.func5
    (ChangeSpec.witness_shaped (enc := enc) (C := Tryd.checked) (os := os) (X := fun w _ => laidMetH Tryd.prog Rows.linkBackRow.laid w) false (World.doorLaid Tryd.prog 400 os) #[.slice none 0 0, .int .i64 0] 8 rfl (World.shaped_of_RefB (by kernel_rfl) (by kernel_rfl)) (by kernel_rfl) (by kernel_rfl) (by kernel_rfl) (door_met os _)) ?_
  intro W base args ds gs before hval0 hW _ hsz0 hL _
  have hval : ∀ (j : Nat) t v, Tryd.f5.params[j]? = some t → args[j]? = some v → Value.okWide Tryd.prog W .any base t v := hval0
  have hsz : (DataW.weightsEach Tryd.prog (Tryd.f5.params.toList ++ Rows.linkBackSpec.plain.varTypes Tryd.prog) (ds ++ gs)).all (· ≤ reachBytes) = true := hsz0
  have hW' := hW
  obtain ⟨p, q, hA0, hV, rfl, hfz, hnd⟩ := hW
  have hA : DataW.TrodAll enc Tryd.prog W 0 (fun _ => true) true Tryd.f5.params.toList args.toList ds p := hA0
  have hAk := hA
  rw [Tryd.params5] at hA hval hsz
  obtain ⟨v0, vs0, d0, ds0, p0_, q0_, hargs, rfl, rfl, h0, r0_⟩ := trodAll_cons hA
  obtain ⟨v1, vs1, d1, ds1, p1_, q1_, rfl, rfl, rfl, h1, r1_⟩ := trodAll_cons r0_
  obtain ⟨rfl, rfl, rfl⟩ := trodAll_nil r1_
  obtain rfl : args = #[v0, v1] := by cases args; simp_all
  obtain ⟨rfl, rfl⟩ := trodVars_none hV
  have hlt : ∀ x ∈ (p0_ ++ (p1_ ++ ([]))), x.block < W.heap.size := fun x hx => by simpa using hW'.lt x (by simpa using hx)
  obtain ⟨p0, n0, c0, F0, z0, rfl, e0⟩ := open_hslice Tryd.underlying22 Tryd.underlying33 (by kernel_rfl) Tryd.underlying5 (by kernel_rfl) (hval 0 22 v0 rfl rfl) h0
  obtain ⟨a1, rfl, rfl, rfl, w1⟩ := open_int Tryd.underlying3 (hval 1 3 v1 rfl rfl) h1
  clear hA0 hval0
  refine (walk p0 n0 c0 F0 z0 a1 w1 W e0 (tab_of_laid hL)).mono fun e W' ⟨he, hg⟩ => ?_
  subst he
  exact ⟨_, rfl, ⟨_, _, _, [], _, [], hW', trodAll_cons_mk (shut_bool Tryd.underlying4 _) trodAll_mk0, trodAll_stays laidOut hg (by kernel_rfl) hAk hlt (fun x hx => by simpa using hlt x hx), rfl, Kept.frame hg _, fun h => by cases h⟩⟩

theorem over : Rows.linkBackRow.holds Tryd.pinned (OpenSpec.ofChange Rows.linkBackSpec) :=
  OpenClaim.holds_of_wide 5 Tryd.f5 rfl rfl rfl rfl rfl rfl rfl ⟨rfl, rfl, rfl, rfl, rfl⟩ rfl rfl rfl rfl rfl (by kernel_rfl) Tryd.func5 (by kernel_rfl)
    (of_decide_eq_true (by kernel_rfl)) (by unfold Func.isWrapper; first | (rw [if_pos (by decide +kernel)]; kernel_rfl) | (rw [if_neg (by decide +kernel)]; exact ⟨rfl, rfl⟩))
    (fun os started H enc _ => lifted os started H enc)
end Go.Proofs.YtfdjbomofmeolaaDoor.linkBack
namespace Go.Proofs.YtfdjbomofmeolaaDoor
theorem linkBack_holds : Rows.LinkBackSaid := linkBack.over
theorem linkBack_card : Rows.LinkBackCardSaid :=
  Claim7.holds_tied_plain_at .later [] [.data] true (true, "d2ac4cb282a8d19ab587d1f9d57132f56d731b40c2108f70222c128de4a60e05") false
    linkBack_holds (fun _ h => by cases h) (by kernel_rfl) (fun _ h => by cases h) linkBack_row_tie rfl ⟨rfl, rfl⟩ (by kernel_rfl) rfl
    (fun f fn hf hfn => by
      obtain rfl : f = 5 := Option.some.inj ((show Tryd.prog.funcNamed "milepost/milepostlaw21.LinkBack" = some 5 by kernel_rfl).symm.trans hf) |>.symm
      obtain rfl : fn = Tryd.f5 := (Option.some.inj (Tryd.func5.symm.trans hfn)).symm
      refine ⟨by kernel_rfl, fun j t ht => ?_⟩
      have hm : t ∈ Tryd.f5.params.toList := by simpa using Array.mem_of_getElem? ht
      have hall : (Tryd.f5.params.toList.all fun u => !Tryd.prog.wantsStandIn u) = true := by kernel_rfl
      exact (show Tryd.prog.wantsStandIn t = false by simpa using List.all_eq_true.1 hall t hm))
    (by kernel_rfl)
#print axioms linkBack_card
end Go.Proofs.YtfdjbomofmeolaaDoor
