/-
  The vector of the block behind one that has any vector, id and level is the reference's, entry by entry, and the first one is the id alone; chapter 20's examples hold: 'InterNext' returns true.
  Conditions: none.
-/
import Derived.Test.YtfadcibmkjpjoaaRows
import Derived.Test.YtfadcibmkjpjoaaInterLaw
import Derived.Test.YtfadcibmkjpjoaaLawLibI
import Derived.WalkKit
import Derived.ProofKit
import Derived.OpenShut
import Derived.ShutString
import Derived.SizedLaws
import Derived.Test.YtfadcibmkjpjoaaBas
namespace Go.Proofs.Ytfadcibmkjpjoaa.interNext
open Go.ChangeShapes Go.WideShapes Go.ChangeAt Go.RowKit
open Go.ChangeMaps (open_string shut_string)
set_option linter.unusedVariables false

theorem own : ownKnob Try.prog.godebug = none := by kernel_rfl
theorem laidOut : laidOutB Try.prog = true := by kernel_rfl

set_option maxRecDepth 100000 in
set_option maxHeartbeats 4000000 in
theorem walk (p0 : Option Addr) (n0 c0 : Nat) (F0 : Nat → List UInt8) (z0 : n0 ≤ c0 ∧ c0 ≤ maxLen) (a1 : List UInt8) (n1 : a1.length = 32) (a2 : Int) (w2 : (Lit.int .i64 a2).wf = true) (w : World) (e0 : HAt w p0 n0 F0) :
    Calls Try.prog 3 #[.slice p0 n0 c0, .agg (bC 32 a1), .int .i64 a2] w fun e w' => e = .returned (.bool true) ∧ Kept w w' := by
  obtain ⟨b1, b2⟩ := bounds_i64 w2
  have HA : Hid (∀ w, _) := Lib.hid fun w => awake20_any w
  have X0 := Lib.hid (show HSl n0 F0 (.slice p0 n0 c0) w from ⟨p0, c0, rfl, z0.1, z0.2, e0⟩)
  have R4 := Lib.hid (Rowz.new w (bC 32 a1) 24)
  have K1 := Lib.hid ((Kept.refl w).alloc (.cells (bC 32 a1) 24))
  by_cases hn : 300 < n0
  · have hd1 : decide ((n0 : Int) > 300) = true := decide_eq_true (by omega)
    have hd1' : decide ((300 : Int) < (n0 : Int)) = true := decide_eq_true (by omega)
    clear e0 z0 X0 R4 w2 b1 b2 hn
    go_enter Try.func3, Try.ntmps3
    go_wp2_with fail
    refine (HA.out _).mono ?_
    rintro e v1 ⟨rfl, k1⟩
    replace K1 := Lib.hid (K1.out.trans k1)
    go_wp2_with fail
    go_ret
    exact ⟨rfl, K1.out⟩
  · have hd1 : decide ((n0 : Int) > 300) = false := decide_eq_false (by omega)
    have hd1' : decide ((300 : Int) < (n0 : Int)) = false := decide_eq_false (by omega)
    have H1 : Hid (∀ w, _) := Lib.hid fun w => interFirst_any a1 w n1
    have H2 : Hid (∀ v w, HSl n0 F0 v w → _) := Lib.hid fun v w hv => interNext_any n0 F0 v w a1 a2 hv (by omega) n1 b1 b2
    have H3 : Hid (∀ v w, HSl n0 F0 v w → _) := Lib.hid fun v w hv => refNext17_any n0 F0 v w a1 a2 hv (by omega) n1 b1 b2
    generalize nxF F0 n0 a1 (lvlC a2) = G at H2 H3
    generalize nxN n0 (lvlC a2) = M at H2 H3
    have H4 : Hid (∀ v u w, HSl M G v w → HSl M G u w → Calls Try.prog 8 #[v, u] w fun e w' => e = .returned (.bool true) ∧ Kept w w') := Lib.hid fun v u w hv hu => (refHashes_any M M G G v u w hv hu).mono fun e w' ⟨B, he, hB, hk⟩ => ⟨by rw [he, hB.2 ⟨rfl, fun _ _ => rfl⟩], hk⟩
    have hl1 := n1
    clear e0 z0 w2 b1 b2 hn n1
    go_enter Try.func3, Try.ntmps3
    go_wp2_with (refine wpList_exec 12 rfl (by rfl) _ _ (load_h rfl rfl R4.out) ?_)
    generalize w.alloc (.cells (bC 32 a1) 24) = v1 at R4 K1 ⊢
    refine (H1.out v1).mono ?_
    rintro e v2 ⟨x, rfl, hx, k2⟩
    obtain ⟨p, c, rfl, _, _, hP⟩ := hx
    obtain ⟨q, rfl, _⟩ := hP.some (by omega)
    have HP := Lib.hid hP
    replace R4 := Lib.hid (R4.out.kept k2)
    replace K1 := Lib.hid (K1.out.trans k2)
    replace X0 := Lib.hid (HSl.kept _ _ _ _ _ K1.out X0.out)
    clear hP k2 H1
    go_wp2_with fail
    refine wp_region_table [(14, .is (.slice p0 n0 c0)), (15, .is (.agg (bC 32 a1))), (16, .is (.int .i64 a2)), (17, .such (HSl M G) (HSl.kept M G)), (18, .is (.slice p0 n0 c0)), (19, .is (.agg (bC 32 a1))), (20, .is (.int .i64 a2)), (21, .such (HSl M G) (HSl.kept M G)), (22, .is (.bool true)), (23, .is (.bool true)), (24, .is (.slice (some q) 1 c)), (25, .is (.int .i64 1)), (26, .is (.bool true)), (27, .is (.bool true)), (28, .is (.bool true)), (29, .is (.slice (some q) 1 c)), (30, .is (.pointer (some (q.add (0 * 32))))), (31, .is (.agg (bC 32 a1))), (32, .is (.agg (bC 32 a1))), (33, .is (.bool true)), (34, .is (.bool true)), (35, .is (.bool true)), (36, .is (.bool true)), (37, .is (.bool true)), (6, .is (.bool true))] (by kernel_rfl) (by kernel_rfl) ?_ ?_
    · refine ⟨fun t w1 hf hk hp => ?_, ?_⟩
      · have h0 : slot t 0 = .slice p0 n0 c0 := hf 0 (by kernel_rfl)
        clear hf hp
        refine stepAt_plain rfl ?_
        exact stepOK_move _ (.inl rfl) h0
      refine ⟨fun t w1 hf hk hp => ?_, ?_⟩
      · have h4 : slot t 4 = .pointer (some ⟨w.heap.size, 0, none⟩) := hf 4 (by kernel_rfl)
        clear hf hp
        refine stepAt_plain rfl ?_
        exact stepOK_pure (.agg (bC 32 a1)) (load_h rfl h4 (R4.out.kept hk)) rfl
      refine ⟨fun t w1 hf hk hp => ?_, ?_⟩
      · have h2 : slot t 2 = .int .i64 a2 := hf 2 (by kernel_rfl)
        clear hf hp
        refine stepAt_plain rfl ?_
        exact stepOK_move _ (.inl rfl) h2
      refine ⟨fun t w1 hf hk hp => ?_, ?_⟩
      · have h14 : slot t 14 = .slice p0 n0 c0 := hp 14 (by kernel_rfl)
        have h15 : slot t 15 = .agg (bC 32 a1) := hp 15 (by kernel_rfl)
        have h16 : slot t 16 = .int .i64 a2 := hp 16 (by kernel_rfl)
        clear hf hp
        refine stepAt_plain rfl ?_
        refine stepOK_call #[.slice p0 n0 c0, .agg (bC 32 a1), .int .i64 a2] rfl (by simp only [List.map_toArray, List.map_cons, List.map_nil, evS, h14, h15, h16]) (by go_simp) ((H2.out _ w1 (HSl.kept _ _ _ _ _ hk X0.out)).mono fun e w' ⟨v, he, hpv, hk'⟩ => ⟨v, he, hk', hpv⟩)
      refine ⟨fun t w1 hf hk hp => ?_, ?_⟩
      · have h0 : slot t 0 = .slice p0 n0 c0 := hf 0 (by kernel_rfl)
        clear hf hp
        refine stepAt_plain rfl ?_
        exact stepOK_move _ (.inl rfl) h0
      refine ⟨fun t w1 hf hk hp => ?_, ?_⟩
      · have h4 : slot t 4 = .pointer (some ⟨w.heap.size, 0, none⟩) := hf 4 (by kernel_rfl)
        clear hf hp
        refine stepAt_plain rfl ?_
        exact stepOK_pure (.agg (bC 32 a1)) (load_h rfl h4 (R4.out.kept hk)) rfl
      refine ⟨fun t w1 hf hk hp => ?_, ?_⟩
      · have h2 : slot t 2 = .int .i64 a2 := hf 2 (by kernel_rfl)
        clear hf hp
        refine stepAt_plain rfl ?_
        exact stepOK_move _ (.inl rfl) h2
      refine ⟨fun t w1 hf hk hp => ?_, ?_⟩
      · have h18 : slot t 18 = .slice p0 n0 c0 := hp 18 (by kernel_rfl)
        have h19 : slot t 19 = .agg (bC 32 a1) := hp 19 (by kernel_rfl)
        have h20 : slot t 20 = .int .i64 a2 := hp 20 (by kernel_rfl)
        clear hf hp
        refine stepAt_plain rfl ?_
        refine stepOK_call #[.slice p0 n0 c0, .agg (bC 32 a1), .int .i64 a2] rfl (by simp only [List.map_toArray, List.map_cons, List.map_nil, evS, h18, h19, h20]) (by go_simp) ((H3.out _ w1 (HSl.kept _ _ _ _ _ hk X0.out)).mono fun e w' ⟨v, he, hpv, hk'⟩ => ⟨v, he, hk', hpv⟩)
      refine ⟨fun t w1 hf hk hp => ?_, ?_⟩
      · obtain ⟨v17, h17, p17⟩ : ∃ v, slot t 17 = v ∧ (HSl M G) v w1 := ⟨_, rfl, hp 17 (by kernel_rfl)⟩
        obtain ⟨v21, h21, p21⟩ : ∃ v, slot t 21 = v ∧ (HSl M G) v w1 := ⟨_, rfl, hp 21 (by kernel_rfl)⟩
        clear hf hp
        refine stepAt_plain rfl ?_
        refine stepOK_call #[v17, v21] rfl (by simp only [List.map_toArray, List.map_cons, List.map_nil, evS, h17, h21]) (by go_simp) ((H4.out _ _ w1 p17 p21).mono fun e w' ⟨he, hk'⟩ => ⟨_, he, hk', rfl⟩)
      refine ⟨fun t w1 hf hk hp => ?_, ?_⟩
      · have h22 : slot t 22 = .bool true := hp 22 (by kernel_rfl)
        clear hf hp
        refine stepAt_plain rfl ?_
        exact stepOK_move _ (.inl rfl) h22
      refine ⟨fun t w1 hf hk hp => ?_, ?_⟩
      · have h7 : slot t 7 = .slice (some q) 1 c := hf 7 (by kernel_rfl)
        have h23 : slot t 23 = .bool true := hp 23 (by kernel_rfl)
        clear hf hp
        refine stepAt_on 23 true (by kernel_rfl) h23 ?_
        exact stepOK_move _ (.inl rfl) h7
      refine ⟨fun t w1 hf hk hp => ?_, ?_⟩
      · have h24 : slot t 24 = .slice (some q) 1 c := hp 24 (by kernel_rfl)
        have h23 : slot t 23 = .bool true := hp 23 (by kernel_rfl)
        clear hf hp
        refine stepAt_on 23 true (by kernel_rfl) h23 ?_
        exact stepOK_pure (.int .i64 1) (execLenHs (n := 1) w1 rfl h24) rfl
      refine ⟨fun t w1 hf hk hp => ?_, ?_⟩
      · have h25 : slot t 25 = .int .i64 1 := hp 25 (by kernel_rfl)
        have h23 : slot t 23 = .bool true := hp 23 (by kernel_rfl)
        clear hf hp
        refine stepAt_on 23 true (by kernel_rfl) h23 ?_
        refine stepOK_pure (.bool true) ?_ rfl
        simp only [execOp, evS, h25]
        go_simp
      refine ⟨fun t w1 hf hk hp => ?_, ?_⟩
      · have h23 : slot t 23 = .bool true := hp 23 (by kernel_rfl)
        have h26 : slot t 26 = .bool true := hp 26 (by kernel_rfl)
        clear hf hp
        refine stepAt_plain rfl ?_
        refine stepOK_pure (.bool true) ?_ rfl
        simp only [execOp, evS, h23, h26]
        go_simp
      refine ⟨fun t w1 hf hk hp => ?_, ?_⟩
      · have h27 : slot t 27 = .bool true := hp 27 (by kernel_rfl)
        clear hf hp
        refine stepAt_plain rfl ?_
        exact stepOK_move _ (.inl rfl) h27
      refine ⟨fun t w1 hf hk hp => ?_, ?_⟩
      · have h7 : slot t 7 = .slice (some q) 1 c := hf 7 (by kernel_rfl)
        have h28 : slot t 28 = .bool true := hp 28 (by kernel_rfl)
        clear hf hp
        refine stepAt_on 28 true (by kernel_rfl) h28 ?_
        exact stepOK_move _ (.inl rfl) h7
      refine ⟨fun t w1 hf hk hp => ?_, ?_⟩
      · have h29 : slot t 29 = .slice (some q) 1 c := hp 29 (by kernel_rfl)
        have h28 : slot t 28 = .bool true := hp 28 (by kernel_rfl)
        clear hf hp
        refine stepAt_on 28 true (by kernel_rfl) h28 ?_
        exact stepOK_pure (.pointer (some (q.add (0 * 32)))) (execIndex0 q 1 c 0 (by omega) w1 rfl h29) rfl
      refine ⟨fun t w1 hf hk hp => ?_, ?_⟩
      · have h30 : slot t 30 = .pointer (some (q.add (0 * 32))) := hp 30 (by kernel_rfl)
        have h28 : slot t 28 = .bool true := hp 28 (by kernel_rfl)
        clear hf hp
        refine stepAt_on 28 true (by kernel_rfl) h28 ?_
        have hq0 := (HP.out.kept hk).load 0 (by omega)
        exact stepOK_sem (.agg (bC 32 a1)) (by simp only [execOp, evS, h30]) hq0 rfl
      refine ⟨fun t w1 hf hk hp => ?_, ?_⟩
      · have h4 : slot t 4 = .pointer (some ⟨w.heap.size, 0, none⟩) := hf 4 (by kernel_rfl)
        have h28 : slot t 28 = .bool true := hp 28 (by kernel_rfl)
        clear hf hp
        refine stepAt_on 28 true (by kernel_rfl) h28 ?_
        exact stepOK_pure (.agg (bC 32 a1)) (load_h rfl h4 (R4.out.kept hk)) rfl
      refine ⟨fun t w1 hf hk hp => ?_, ?_⟩
      · have h31 : slot t 31 = .agg (bC 32 a1) := hp 31 (by kernel_rfl)
        have h32 : slot t 32 = .agg (bC 32 a1) := hp 32 (by kernel_rfl)
        have h28 : slot t 28 = .bool true := hp 28 (by kernel_rfl)
        clear hf hp
        refine stepAt_on 28 true (by kernel_rfl) h28 ?_
        exact stepOK_pure (.bool true) (execEqH1 a1 hl1 w1 rfl h31 h32) rfl
      refine ⟨fun t w1 hf hk hp => ?_, ?_⟩
      · have h28 : slot t 28 = .bool true := hp 28 (by kernel_rfl)
        have h33 : slot t 33 = .bool true := hp 33 (by kernel_rfl)
        clear hf hp
        refine stepAt_plain rfl ?_
        refine stepOK_pure (.bool true) ?_ rfl
        simp only [execOp, evS, h28, h33]
        go_simp
      refine ⟨fun t w1 hf hk hp => ?_, ?_⟩
      · have h34 : slot t 34 = .bool true := hp 34 (by kernel_rfl)
        clear hf hp
        refine stepAt_plain rfl ?_
        exact stepOK_move _ (.inl rfl) h34
      refine ⟨fun t w1 hf hk hp => ?_, ?_⟩
      · have h35 : slot t 35 = .bool true := hp 35 (by kernel_rfl)
        clear hf hp
        refine stepAt_on 35 true (by kernel_rfl) h35 ?_
        refine stepOK_call #[] rfl (by simp only [List.map_toArray, List.map_nil]) (by go_simp) ((HA.out w1).mono fun e w' ⟨he, hk'⟩ => ⟨_, he, hk', rfl⟩)
      refine ⟨fun t w1 hf hk hp => ?_, ?_⟩
      · have h35 : slot t 35 = .bool true := hp 35 (by kernel_rfl)
        have h36 : slot t 36 = .bool true := hp 36 (by kernel_rfl)
        clear hf hp
        refine stepAt_plain rfl ?_
        refine stepOK_pure (.bool true) ?_ rfl
        simp only [execOp, evS, h35, h36]
        go_simp
      refine ⟨fun t w1 hf hk hp => ?_, ?_⟩
      · have h37 : slot t 37 = .bool true := hp 37 (by kernel_rfl)
        clear hf hp
        refine stepAt_plain rfl ?_
        exact stepOK_move _ (.inr rfl) h37
      exact trivial
    · intro t w1 hsz hf hk hfacts
      have h6 : slot t 6 = .bool true := hfacts 24 _ rfl 6 rfl
      have h0 : slot t 0 = .slice p0 n0 c0 := hf 0 (by kernel_rfl)
      have h2 : slot t 2 = .int .i64 a2 := hf 2 (by kernel_rfl)
      have h4 : slot t 4 = .pointer (some ⟨w.heap.size, 0, none⟩) := hf 4 (by kernel_rfl)
      have h7 : slot t 7 = .slice (some q) 1 c := hf 7 (by kernel_rfl)
      have harr : t = #[slot t 0, slot t 1, slot t 2, slot t 3, slot t 4, slot t 5, slot t 6, slot t 7, slot t 8, slot t 9, slot t 10, slot t 11, slot t 12, slot t 13, slot t 14, slot t 15, slot t 16, slot t 17, slot t 18, slot t 19, slot t 20, slot t 21, slot t 22, slot t 23, slot t 24, slot t 25, slot t 26, slot t 27, slot t 28, slot t 29, slot t 30, slot t 31, slot t 32, slot t 33, slot t 34, slot t 35, slot t 36, slot t 37] := arr_eq t 38 hsz
      rw [harr, h6, h0, h2, h4, h7]
      clear harr hfacts hf h6 h0 h2 h4 h7
      generalize slot t 1 = x1; generalize slot t 3 = x3; generalize slot t 5 = x5; generalize slot t 8 = x8; generalize slot t 9 = x9; generalize slot t 10 = x10; generalize slot t 11 = x11; generalize slot t 12 = x12; generalize slot t 13 = x13; generalize slot t 14 = x14; generalize slot t 15 = x15; generalize slot t 16 = x16
      generalize slot t 17 = x17; generalize slot t 18 = x18; generalize slot t 19 = x19; generalize slot t 20 = x20; generalize slot t 21 = x21; generalize slot t 22 = x22; generalize slot t 23 = x23; generalize slot t 24 = x24; generalize slot t 25 = x25; generalize slot t 26 = x26; generalize slot t 27 = x27; generalize slot t 28 = x28
      generalize slot t 29 = x29; generalize slot t 30 = x30; generalize slot t 31 = x31; generalize slot t 32 = x32; generalize slot t 33 = x33; generalize slot t 34 = x34; generalize slot t 35 = x35; generalize slot t 36 = x36; generalize slot t 37 = x37
      clear hsz t
      have K2 := Lib.hid (K1.out.trans hk)
      clear hk
      go_wp2_with fail
      go_ret
      exact ⟨rfl, K2.out⟩

set_option maxRecDepth 100000 in
set_option maxHeartbeats 1000000 in
theorem lifted (os : Os) (started : os.Started) (H : Type) (enc : TypeId × Value → H) :
    ReturnsInHanded {} Try.checked os 3 .any (Rows.interNextSpec.pre6 enc Try.prog Try.f3 Rows.interNextRow.domain false) (Rows.interNextSpec.post enc Try.prog Try.f3 false true false false) := by
  refine returnsInHanded_of_change_sized (C := Try.checked) own started (by kernel_rfl) Try.func3
    (ChangeSpec.witness6 (enc := enc) (C := Try.checked) false ⟨#[], #[.slice none 0 0, .agg #[.int .u8 0, .int .u8 0, .int .u8 0, .int .u8 0, .int .u8 0, .int .u8 0, .int .u8 0, .int .u8 0, .int .u8 0, .int .u8 0, .int .u8 0, .int .u8 0, .int .u8 0, .int .u8 0, .int .u8 0, .int .u8 0, .int .u8 0, .int .u8 0, .int .u8 0, .int .u8 0, .int .u8 0, .int .u8 0, .int .u8 0, .int .u8 0, .int .u8 0, .int .u8 0, .int .u8 0, .int .u8 0, .int .u8 0, .int .u8 0, .int .u8 0, .int .u8 0], .int .i64 0], []⟩ 8 (by kernel_rfl) (by kernel_rfl) (by kernel_rfl) (by kernel_rfl)) ?_
  intro W base args ds gs before hval0 hW hcnd hsz0 _
  have hval : ∀ (j : Nat) t v, Try.f3.params[j]? = some t → args[j]? = some v → Value.okWide Try.prog W .any base t v := hval0
  have hsz : (DataW.weightsEach Try.prog (Try.f3.params.toList ++ Rows.interNextSpec.plain.varTypes Try.prog) (ds ++ gs)).all (· ≤ reachBytes) = true := hsz0
  have hW' := hW
  obtain ⟨p, q, hA0, hV, rfl, hfz, hnd⟩ := hW
  have hA : DataW.TrodAll enc Try.prog W 0 (fun _ => true) true Try.f3.params.toList args.toList ds p := hA0
  have hAk := hA
  rw [Try.params3] at hA hval hsz
  obtain ⟨v0, vs0, d0, ds0, p0_, q0_, hargs, rfl, rfl, h0, r0_⟩ := trodAll_cons hA
  obtain ⟨v1, vs1, d1, ds1, p1_, q1_, rfl, rfl, rfl, h1, r1_⟩ := trodAll_cons r0_
  obtain ⟨v2, vs2, d2, ds2, p2_, q2_, rfl, rfl, rfl, h2, r2_⟩ := trodAll_cons r1_
  obtain ⟨rfl, rfl, rfl⟩ := trodAll_nil r2_
  obtain rfl : args = #[v0, v1, v2] := by cases args; simp_all
  obtain ⟨rfl, rfl⟩ := trodVars_none hV
  have hlt : ∀ x ∈ (p0_ ++ (p1_ ++ (p2_ ++ ([])))), x.block < W.heap.size := fun x hx => by simpa using hW'.lt x (by simpa using hx)
  obtain ⟨p0, n0, c0, F0, z0, rfl, e0⟩ := open_hslice Try.underlying22 Try.underlying24 (by kernel_rfl) Try.underlying5 (by kernel_rfl) (hval 0 22 v0 rfl rfl) h0
  obtain ⟨cs1, rfl⟩ : ∃ cs, v1 = .agg cs := by
    have := hval 1 24 v1 rfl rfl
    simp only [Value.okWide, Try.underlying24] at this
    obtain ⟨cs, h, _⟩ := this
    exact ⟨cs, h⟩
  obtain ⟨a1, n1, rfl⟩ := open_hash Try.underlying24 Try.underlying5 (by kernel_rfl) (by kernel_rfl) h1
  obtain ⟨a2, rfl, rfl, rfl, w2⟩ := open_int Try.underlying3 (hval 2 3 v2 rfl rfl) h2
  clear hA0 hval0
  refine (walk p0 n0 c0 F0 z0 a1 n1 a2 w2 W e0).mono fun e W' ⟨he, hg⟩ => ?_
  subst he
  exact ⟨_, rfl, ⟨_, _, _, [], _, [], hW', trodAll_cons_mk (shut_bool Try.underlying4 _) trodAll_mk0, trodAll_stays laidOut hg (by kernel_rfl) hAk hlt (fun x hx => by simpa using hlt x hx), rfl, Kept.frame hg _, fun h => by cases h⟩⟩

theorem over : Rows.interNextRow.holds Try.pinned (OpenSpec.ofChange Rows.interNextSpec) :=
  OpenClaim.holds_of_wide 3 Try.f3 rfl rfl rfl rfl rfl rfl rfl ⟨rfl, rfl, rfl, rfl, rfl⟩ rfl rfl rfl rfl rfl (by kernel_rfl) Try.func3 (by kernel_rfl)
    (of_decide_eq_true (by kernel_rfl)) (by unfold Func.isWrapper; first | (rw [if_pos (by decide +kernel)]; kernel_rfl) | (rw [if_neg (by decide +kernel)]; exact ⟨rfl, rfl⟩))
    (fun os started H enc _ => lifted os started H enc)
end Go.Proofs.Ytfadcibmkjpjoaa.interNext
namespace Go.Proofs.Ytfadcibmkjpjoaa
theorem interNext_holds : Rows.InterNextSaid := interNext.over
#print axioms interNext_holds
end Go.Proofs.Ytfadcibmkjpjoaa
