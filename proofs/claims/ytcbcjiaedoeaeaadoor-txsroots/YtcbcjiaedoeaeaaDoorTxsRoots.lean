/-
  Whether transactions may be, their root, and the opening of any of them are the reference's; chapter 22's example holds: 'TxsRoots' returns true.
  Conditions: those of the given card (sha's table of round constants as the program's text lays it).
-/
import Derived.Test.YtcbcjiaedoeaeaaDoorRows
import Derived.Test.YtcbcjiaedoeaeaaDoorTxLaw
import Derived.Test.YtcbcjiaedoeaeaaDoorOpe
import Derived.WalkKit
import Derived.ProofKit
import Derived.OpenShut
import Derived.ShutString
import Derived.SizedLaws
import Derived.Test.YtcbcjiaedoeaeaaDoorBas
import Derived.LaidMore
import Derived.SevenTiedAt
import Derived.Test.YtcbcjiaedoeaeaaDoorCards
import Derived.Test.YtcbcjiaedoeaeaaDoorTie
import Derived.Test.YtcbcjiaedoeaeaaDoorShb
namespace Go.Proofs.YtcbcjiaedoeaeaaDoor.txsRoots
open Go.ChangeShapes Go.WideShapes Go.ChangeAt Go.RowKit
open Go.ChangeMaps (open_string shut_string)
set_option linter.unusedVariables false

theorem own : ownKnob Tryd.prog.godebug = none := by kernel_rfl
theorem laidOut : laidOutB Tryd.prog = true := by kernel_rfl

set_option maxRecDepth 100000 in
set_option maxHeartbeats 4000000 in
theorem walk (p0 : Option Addr) (n0 c0 : Nat) (S0 : Nat → ByteArray) (z0 : n0 ≤ c0 ∧ c0 ≤ maxLen) (r0 : ∀ i, i < n0 → (S0 i).size ≤ 140737488351232) (a1 : Int) (w1 : (Lit.int .i64 a1).wf = true) (w : World) (e0 : SAt w p0 n0 S0) (hT : Tab w) :
    Calls Tryd.prog 3 #[.slice p0 n0 c0, .int .i64 a1] w fun e w' => e = .returned (.bool true) ∧ Kept w w' := by
  have HT := Lib.hid hT
  have HA : Hid (∀ w, Tab w → _) := Lib.hid fun w ht => awake22_any w ht
  have hM := much22_any p0 n0 c0 S0 w e0 r0 (by have := z0; unfold maxLen at this; omega)
  have HM := Lib.hid hM
  have HS := Lib.hid e0
  have hz01 := z0
  clear hM e0 r0 hT w1 z0
  go_enter Tryd.func3, Tryd.ntmps3
  go_wp2_with fail
  refine HM.out.mono ?_
  rintro e _ ⟨B, rfl, rfl, hB⟩
  cases B
  · obtain ⟨hn, hz6⟩ := hB rfl
    clear hB HM
    have hz : ∀ i, i < n0 → (S0 i).size ≤ 10000 := fun i hi => Nat.le_trans (hz6 i hi) (by omega)
    have X0 := Lib.hid (show SSl n0 S0 (.slice p0 n0 c0) w from ⟨p0, c0, rfl, hz01.1, hz01.2, HS.out⟩)
    have C1 := Lib.hid (txsOpen_any n0 S0 (.slice p0 n0 c0) w a1 X0.out (by omega) hz HT.out)
    have C2 : Hid (∀ w, SSl n0 S0 (.slice p0 n0 c0) w → _) := Lib.hid fun w hv => refOpen22_any n0 S0 (.slice p0 n0 c0) w a1 hv (by omega) hz
    have C3 : Hid (∀ w, SSl n0 S0 (.slice p0 n0 c0) w → _) := Lib.hid fun w hv => txsMay_any n0 S0 (.slice p0 n0 c0) w hv (by omega) hz
    have C4 : Hid (∀ w, SSl n0 S0 (.slice p0 n0 c0) w → _) := Lib.hid fun w hv => refMay22_any n0 S0 (.slice p0 n0 c0) w hv (by omega) hz
    have C5 : Hid (∀ w, SSl n0 S0 (.slice p0 n0 c0) w → Tab w → _) := Lib.hid fun w hv ht => txsRoot_any n0 S0 (.slice p0 n0 c0) w hv (by omega) hz ht
    have C6 : Hid (∀ w, SSl n0 S0 (.slice p0 n0 c0) w → _) := Lib.hid fun w hv => refTxs22_any n0 S0 (.slice p0 n0 c0) w hv (by omega) hz
    have HR32 : (rootL (tkS S0) n0).length = 32 := shaL_length _
    generalize (otL S0 n0 a1).length = m at C1 C2
    generalize lh (otL S0 n0 a1) = G at C1 C2
    generalize otI S0 n0 a1 = I at C1 C2
    generalize otC S0 n0 a1 = N at C1 C2
    generalize otE S0 n0 a1 = E at C1 C2
    generalize mayT S0 n0 = E2 at C3 C4
    generalize rootL (tkS S0) n0 = r at C5 C6 HR32
    have C7 : Hid (∀ v u w, HSl m G v w → HSl m G u w → Calls Tryd.prog 12 #[.agg #[.int .i64 I, .int .i64 N, v], .agg #[.int .i64 I, .int .i64 N, u]] w fun e w' => e = .returned (.bool true) ∧ Kept w w') := Lib.hid fun v u w hv hu => by
      have := refSame_any I N I N m m G G v u w hv hu
      rwa [sameO_self] at this
    have hEE : (E == E) = true := by simp
    have hEE2 : (E2 == E2) = true := by simp
    have hsz : ∀ v : Value, (#[.int .i64 I, .int .i64 N, v] : Array Value).size = 3 := fun _ => rfl
    clear hz6 hz hz01
    go_wp2_with fail
    refine C1.out.mono ?_
    rintro e v1 ⟨qa, ca, rfl, hp, k1⟩
    have PA := Lib.hid hp
    have K1 := Lib.hid k1
    clear hp k1 C1
    go_wp2_with (refine wpList_store_made rfl 27 _ _ rfl _ _ #[.int .i64 I, .int .i64 N, .slice qa m ca] rfl rfl 27 _ rfl (opR_size _ _ _) rfl (opR_one _ _ _ _ _) ?_; intro v2 R5 k2)
    obtain ⟨g5, hg5⟩ : ∃ g, g = v1.heap.size := ⟨_, rfl⟩
    rw [← hg5] at R5 ⊢
    clear hg5
    replace PA := Lib.hid (HSl.kept _ _ _ _ _ k2.out PA.out)
    replace K1 := Lib.hid (K1.out.trans k2.out)
    clear k2
    refine (C2.out v2 (SSl.kept _ _ _ _ _ K1.out X0.out)).mono ?_
    rintro e v4 ⟨qb, cb, rfl, hp, k4⟩
    have PB := Lib.hid hp
    replace R5 := Lib.hid (R5.out.kept k4)
    replace PA := Lib.hid (HSl.kept _ _ _ _ _ k4 PA.out)
    replace K1 := Lib.hid (K1.out.trans k4)
    clear hp k4 C2
    go_wp2_with (refine wpList_store_made rfl 27 _ _ rfl _ _ #[.int .i64 I, .int .i64 N, .slice qb m cb] rfl rfl 27 _ rfl (opR_size _ _ _) rfl (opR_one _ _ _ _ _) ?_; intro v5 R7 k5)
    obtain ⟨g7, hg7⟩ : ∃ g, g = v4.heap.size := ⟨_, rfl⟩
    rw [← hg7] at R7 ⊢
    clear hg7
    replace R5 := Lib.hid (R5.out.kept k5.out)
    replace PA := Lib.hid (HSl.kept _ _ _ _ _ k5.out PA.out)
    replace PB := Lib.hid (HSl.kept _ _ _ _ _ k5.out PB.out)
    replace K1 := Lib.hid (K1.out.trans k5.out)
    clear k5
    refine (C3.out v5 (SSl.kept _ _ _ _ _ K1.out X0.out)).mono ?_
    rintro e v6 ⟨rfl, k6⟩
    replace R5 := Lib.hid (R5.out.kept k6)
    replace R7 := Lib.hid (R7.out.kept k6)
    replace PA := Lib.hid (HSl.kept _ _ _ _ _ k6 PA.out)
    replace PB := Lib.hid (HSl.kept _ _ _ _ _ k6 PB.out)
    replace K1 := Lib.hid (K1.out.trans k6)
    clear k6 C3
    go_wp2_with fail
    refine (C4.out v6 (SSl.kept _ _ _ _ _ K1.out X0.out)).mono ?_
    rintro e v7 ⟨rfl, k7⟩
    replace R5 := Lib.hid (R5.out.kept k7)
    replace R7 := Lib.hid (R7.out.kept k7)
    replace PA := Lib.hid (HSl.kept _ _ _ _ _ k7 PA.out)
    replace PB := Lib.hid (HSl.kept _ _ _ _ _ k7 PB.out)
    replace K1 := Lib.hid (K1.out.trans k7)
    clear k7 C4
    go_wp2_with (first
      | (refine wpList_exec 30 rfl (by rfl) _ _ (loadO rfl rfl R5.out (hsz _)) ?_)
      | (refine wpList_exec 31 rfl (by rfl) _ _ (loadO rfl rfl R7.out (hsz _)) ?_))
    refine (C7.out _ _ v7 PA.out PB.out).mono ?_
    rintro e v8 ⟨rfl, k8⟩
    replace K1 := Lib.hid (K1.out.trans k8)
    clear k8 C7 PA PB R5 R7
    by_cases h60 : 60 < n0
    · have d1 : decide ((n0 : Int) > 60) = true := decide_eq_true (by omega)
      have d1' : decide ((60 : Int) < (n0 : Int)) = true := decide_eq_true (by omega)
      have d1'' : decide (60 < n0) = true := decide_eq_true h60
      go_wp2_with fail
      refine (HA.out v8 (HT.out.kept K1.out)).mono ?_
      rintro e v9 ⟨rfl, k9⟩
      replace K1 := Lib.hid (K1.out.trans k9)
      go_wp2_with fail
      go_ret
      exact ⟨rfl, K1.out⟩
    · have d1 : decide ((n0 : Int) > 60) = false := decide_eq_false (by omega)
      have d1' : decide ((60 : Int) < (n0 : Int)) = false := decide_eq_false (by omega)
      have d1'' : decide (60 < n0) = false := decide_eq_false h60
      go_wp2_with fail
      refine (C5.out v8 (SSl.kept _ _ _ _ _ K1.out X0.out) (HT.out.kept K1.out)).mono ?_
      rintro e v9 ⟨rfl, k9⟩
      replace K1 := Lib.hid (K1.out.trans k9)
      clear k9 C5
      go_wp2_with fail
      refine (C6.out v9 (SSl.kept _ _ _ _ _ K1.out X0.out)).mono ?_
      rintro e v10 ⟨rfl, k10⟩
      replace K1 := Lib.hid (K1.out.trans k10)
      clear k10 C6
      go_wp2_with (refine wpList_exec 48 rfl (by rfl) _ _ (execEqH1 r HR32 _ rfl rfl rfl) ?_)
      refine (HA.out v10 (HT.out.kept K1.out)).mono ?_
      rintro e v11 ⟨rfl, k11⟩
      replace K1 := Lib.hid (K1.out.trans k11)
      go_wp2_with fail
      go_ret
      exact ⟨rfl, K1.out⟩
  · clear hB HM
    go_wp2_with fail
    refine (HA.out _ HT.out).mono ?_
    rintro e v1 ⟨rfl, k1⟩
    have K1 := Lib.hid k1
    go_wp2_with fail
    go_ret
    exact ⟨rfl, K1.out⟩

set_option maxRecDepth 100000 in
set_option maxHeartbeats 1000000 in
theorem lifted (os : Os) (started : os.Started) (H : Type) (enc : TypeId × Value → H) :
    ReturnsInHanded {} Tryd.checked os 3 .any (fun w args => (Rows.txsRootsSpec.pre enc Tryd.prog Tryd.f3 [] false w args ∧ laidMetH Tryd.prog Rows.txsRootsRow.laid w) ∧ sizedMet enc Tryd.prog Tryd.f3 (OpenSpec.ofChange Rows.txsRootsSpec) false w args)
      (Rows.txsRootsSpec.post enc Tryd.prog Tryd.f3 false true false false) := by
  refine returnsInHanded_of_change_and (C := Tryd.checked) (X := fun w _ => laidMetH Tryd.prog Rows.txsRootsRow.laid w) (fun _ _ _ hh h => h.of_heap hh) own started (by kernel_rfl) Tryd.func3
    (ChangeSpec.witness_shaped (enc := enc) (C := Tryd.checked) (os := os) (X := fun w _ => laidMetH Tryd.prog Rows.txsRootsRow.laid w) false (World.doorLaid Tryd.prog 400 os) #[.slice none 0 0, .int .i64 0] 8 rfl (World.shaped_of_RefB (by kernel_rfl) (by kernel_rfl)) (by kernel_rfl) (by kernel_rfl) (by kernel_rfl) (door_met os _)) ?_
  intro W base args ds gs before hval0 hW _ hsz0 hL _
  have hval : ∀ (j : Nat) t v, Tryd.f3.params[j]? = some t → args[j]? = some v → Value.okWide Tryd.prog W .any base t v := hval0
  have hsz : (DataW.weightsEach Tryd.prog (Tryd.f3.params.toList ++ Rows.txsRootsSpec.plain.varTypes Tryd.prog) (ds ++ gs)).all (· ≤ reachBytes) = true := hsz0
  have hW' := hW
  obtain ⟨p, q, hA0, hV, rfl, hfz, hnd⟩ := hW
  have hA : DataW.TrodAll enc Tryd.prog W 0 (fun _ => true) true Tryd.f3.params.toList args.toList ds p := hA0
  have hAk := hA
  rw [Tryd.params3] at hA hval hsz
  obtain ⟨v0, vs0, d0, ds0, p0_, q0_, hargs, rfl, rfl, h0, r0_⟩ := trodAll_cons hA
  obtain ⟨v1, vs1, d1, ds1, p1_, q1_, rfl, rfl, rfl, h1, r1_⟩ := trodAll_cons r0_
  obtain ⟨rfl, rfl, rfl⟩ := trodAll_nil r1_
  obtain rfl : args = #[v0, v1] := by cases args; simp_all
  obtain ⟨rfl, rfl⟩ := trodVars_none hV
  have hlt : ∀ x ∈ (p0_ ++ (p1_ ++ ([]))), x.block < W.heap.size := fun x hx => by simpa using hW'.lt x (by simpa using hx)
  obtain ⟨p0, n0, c0, S0, z0, rfl, e0, rr0⟩ := open_sslice Tryd.underlying22 Tryd.underlying9 (by kernel_rfl) (hval 0 22 v0 rfl rfl) h0
  obtain ⟨a1, rfl, rfl, rfl, w1⟩ := open_int Tryd.underlying3 (hval 1 3 v1 rfl rfl) h1
  have r0 := (rr0 hsz (J := 0) rfl rfl).2
  clear hA0 hval0
  refine (walk p0 n0 c0 S0 z0 r0 a1 w1 W e0 (tab_of_laid hL)).mono fun e W' ⟨he, hg⟩ => ?_
  subst he
  exact ⟨_, rfl, ⟨_, _, _, [], _, [], hW', trodAll_cons_mk (shut_bool Tryd.underlying4 _) trodAll_mk0, trodAll_stays laidOut hg (by kernel_rfl) hAk hlt (fun x hx => by simpa using hlt x hx), rfl, Kept.frame hg _, fun h => by cases h⟩⟩

theorem over : Rows.txsRootsRow.holds Tryd.pinned (OpenSpec.ofChange Rows.txsRootsSpec) :=
  OpenClaim.holds_of_wide 3 Tryd.f3 rfl rfl rfl rfl rfl rfl rfl ⟨rfl, rfl, rfl, rfl, rfl⟩ rfl rfl rfl rfl rfl (by kernel_rfl) Tryd.func3 (by kernel_rfl)
    (of_decide_eq_true (by kernel_rfl)) (by unfold Func.isWrapper; first | (rw [if_pos (by decide +kernel)]; kernel_rfl) | (rw [if_neg (by decide +kernel)]; exact ⟨rfl, rfl⟩))
    (fun os started H enc _ => lifted os started H enc)
end Go.Proofs.YtcbcjiaedoeaeaaDoor.txsRoots
namespace Go.Proofs.YtcbcjiaedoeaeaaDoor
theorem txsRoots_holds : Rows.TxsRootsSaid := txsRoots.over
theorem txsRoots_card : Rows.TxsRootsCardSaid :=
  Claim7.holds_tied_plain_at .later [] [.data] true (true, "b2ada0222238b61a593490755c687325dba9eef29d1dcfe40011fc54ec8c5a67") false
    txsRoots_holds (fun _ h => by cases h) (by kernel_rfl) (fun _ h => by cases h) txsRoots_row_tie rfl ⟨rfl, rfl⟩ (by kernel_rfl) rfl
    (fun f fn hf hfn => by
      obtain rfl : f = 3 := Option.some.inj ((show Tryd.prog.funcNamed "milepost/milepostlaw22.TxsRoots" = some 3 by kernel_rfl).symm.trans hf) |>.symm
      obtain rfl : fn = Tryd.f3 := (Option.some.inj (Tryd.func3.symm.trans hfn)).symm
      refine ⟨by kernel_rfl, fun j t ht => ?_⟩
      have hm : t ∈ Tryd.f3.params.toList := by simpa using Array.mem_of_getElem? ht
      have hall : (Tryd.f3.params.toList.all fun u => !Tryd.prog.wantsStandIn u) = true := by kernel_rfl
      exact (show Tryd.prog.wantsStandIn t = false by simpa using List.all_eq_true.1 hall t hm))
    (by kernel_rfl)
#print axioms txsRoots_card
end Go.Proofs.YtcbcjiaedoeaeaaDoor
