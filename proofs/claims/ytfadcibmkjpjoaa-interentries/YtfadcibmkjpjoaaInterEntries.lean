/-
  The entry of any level of any vector stands at its place, or is the last one, and there is none of an empty vector or below level 0; chapter 20's examples hold: 'InterEntries' returns true.
  Conditions: none.
-/
import Derived.Test.YtfadcibmkjpjoaaRows
import Derived.Test.YtfadcibmkjpjoaaInterLaw
import Derived.Test.YtfadcibmkjpjoaaLawLibI
import Derived.WalkKit
import Derived.ProofKit
import Derived.OpenShut
import Derived.ShutString
import Derived.SizedLaws
import Derived.Test.YtfadcibmkjpjoaaBas
namespace Go.Proofs.Ytfadcibmkjpjoaa.interEntries
open Go.ChangeShapes Go.WideShapes Go.ChangeAt Go.RowKit
open Go.ChangeMaps (open_string shut_string)
set_option linter.unusedVariables false

theorem own : ownKnob Try.prog.godebug = none := by kernel_rfl
theorem laidOut : laidOutB Try.prog = true := by kernel_rfl

set_option maxRecDepth 100000 in
set_option maxHeartbeats 4000000 in
theorem walk (p0 : Option Addr) (n0 c0 : Nat) (F0 : Nat → List UInt8) (z0 : n0 ≤ c0 ∧ c0 ≤ maxLen) (a1 : Int) (w1 : (Lit.int .i64 a1).wf = true) (w : World) (e0 : HAt w p0 n0 F0) :
    Calls Try.prog 4 #[.slice p0 n0 c0, .int .i64 a1] w fun e w' => e = .returned (.bool true) ∧ Kept w w' := by
  obtain ⟨b1, b2⟩ := bounds_i64 w1
  have HA : Hid (∀ w, _) := Lib.hid fun w => awake20_any w
  by_cases hn : 300 < n0
  · have hd1 : decide ((n0 : Int) > 300) = true := decide_eq_true (by omega)
    have hd1' : decide ((300 : Int) < (n0 : Int)) = true := decide_eq_true (by omega)
    clear e0 z0 w1 b1 b2 hn
    go_enter Try.func4, Try.ntmps4
    go_wp2_with fail
    refine (HA.out _).mono ?_
    rintro e v1 ⟨rfl, k1⟩
    have K1 := Lib.hid k1
    go_wp2_with fail
    go_ret
    exact ⟨rfl, K1.out⟩
  · have hd1 : decide ((n0 : Int) > 300) = false := decide_eq_false (by omega)
    have hd1' : decide ((300 : Int) < (n0 : Int)) = false := decide_eq_false (by omega)
    have H1 := Lib.hid (interEntry_any n0 F0 (.slice p0 n0 c0) w a1 ⟨p0, c0, rfl, z0.1, z0.2, e0⟩ (by omega) b1 b2)
    have hl := enF_length F0 n0 a1 e0.length
    have HF := Lib.hid e0
    have HE : Hid (enF F0 n0 a1 = if 0 ≤ a1 ∧ 0 < n0 then F0 (if a1.toNat < n0 then a1.toNat else n0 - 1) else zH) := Lib.hid rfl
    have HB : Hid (enB n0 a1 = decide (0 ≤ a1 ∧ 0 < n0)) := Lib.hid rfl
    generalize enF F0 n0 a1 = X at H1 hl HE
    generalize enB n0 a1 = B at H1 HB
    clear e0 z0 w1 b1 b2
    by_cases hy : 0 ≤ a1 ∧ 0 < n0
    · rw [decide_eq_true hy] at HB
      obtain rfl := HB.out
      have HX : Hid (X = F0 (if a1.toNat < n0 then a1.toNat else n0 - 1)) := Lib.hid (by have := HE.out; rwa [if_pos hy] at this)
      clear HE HB
      obtain ⟨h1, h2⟩ := hy
      obtain ⟨k, rfl⟩ : ∃ k : Nat, a1 = (k : Int) := ⟨a1.toNat, by omega⟩
      obtain ⟨q, rfl, _⟩ := HF.out.some h2
      have d1 : decide ((k : Int) < 0) = false := decide_eq_false (by omega)
      have d2 : ((n0 : Int) == 0) = false := by simp; omega
      rw [Int.toNat_natCast] at HX
      have HP : Hid (∀ {o : Oper} {t : Array Value} {x : Operand} (w : World), o.op = .binOp .sub 3 x (.const (.int .i64 1)) 3 → evS t x = .int .i64 (n0 : Int) → (execOp (evS t) o).run Try.prog w = .ok (.value (.int .i64 ((n0 - 1 : Nat) : Int))) w) := Lib.hid fun w ho hx => execPred n0 h2 (by omega) w ho hx
      obtain ⟨m, hm⟩ : ∃ m, m = n0 - 1 := ⟨_, rfl⟩
      rw [← hm] at HP HX
      have hm1 : m < n0 := by omega
      clear hm h1
      go_enter Try.func4, Try.ntmps4
      go_wp2_with fail
      refine H1.out.mono ?_
      rintro e v1 ⟨rfl, k1⟩
      have K1 := Lib.hid k1
      clear k1 H1
      go_wp2_with (first
        | (refine wpList_store_made rfl 24 _ _ rfl _ _ (bC 32 X) rfl rfl 24 _ rfl (info_hash _) (by simp [bC_size]) (bC_one _ _) ?_; intro v2 R5 k2)
        | (refine park_at 38 rfl ?_))
      replace K1 := Lib.hid (K1.out.trans k2.out)
      obtain ⟨g5, hg5⟩ : ∃ g, g = v1.heap.size := ⟨_, rfl⟩
      rw [← hg5] at R5 ⊢
      clear hg5 k2
      refine unpark ?_
      have HFm := Lib.hid (HF.out.kept K1.out)
      have h2w : w.heap.size ≤ v2.heap.size := K1.out.size
      have h5w : g5 < v2.heap.size := R5.out.lt
      go_wp2_with (first
        | (refine wpList_exec 38 rfl (by rfl) _ _ (HP.out _ rfl rfl) ?_)
        | (refine wpList_exec 39 rfl (by rfl) _ _ (execIndexH q n0 c0 m hm1 _ rfl rfl rfl) ?_)
        | (refine wpList_exec 40 rfl (by rfl) _ _ (load_at m rfl rfl HFm.out hm1) ?_)
        | (refine wpList_store_made rfl 24 _ _ rfl _ _ (bC 32 (F0 m)) rfl rfl 24 _ rfl (info_hash _) (by simp [bC_size]) (bC_one _ _) ?_; intro v3 R7 k3)
        | (refine park_at 44 rfl ?_))
      replace K1 := Lib.hid (K1.out.trans k3.out)
      replace R5 := Lib.hid (R5.out.kept k3.out)
      obtain ⟨g7, hg7⟩ : ∃ g, g = v2.heap.size := ⟨_, rfl⟩
      rw [← hg7] at R7 ⊢
      have h75 : w.heap.size ≤ g7 := by rw [hg7]; exact h2w
      have h57 : g5 ≠ g7 := by rw [hg7]; exact Nat.ne_of_lt h5w
      clear hg7 k3
      refine unpark ?_
      by_cases c3 : k < n0
      · have HX2 : Hid (X = F0 k) := Lib.hid (by rw [HX.out, if_pos c3])
        obtain rfl := HX2.out
        have g3 : decide ((k : Int) < (n0 : Int)) = true := decide_eq_true (by omega)
        have g3' : decide (k < n0) = true := decide_eq_true c3
        have HFk := Lib.hid (HF.out.kept K1.out)
        go_wp2_with (first
          | (refine wpList_exec 47 rfl (by rfl) _ _ (execIndexH q n0 c0 k c3 _ rfl rfl rfl) ?_)
          | (refine wpList_exec 48 rfl (by rfl) _ _ (load_at k rfl rfl HFk.out c3) ?_)
          | (refine park_none rfl ?_))
        refine unpark ?_
        refine wpList_store_row rfl 24 _ _ rfl g7 (bC 32 (F0 k)) rfl rfl 24 (bC 32 (F0 m)) R7.out (info_hash _) (by simp [bC_size]) (bC_one _ _) ?_
        have R7' := Lib.hid (R7.out.row (D := bC 32 (F0 k)))
        have R5' := Lib.hid (R5.out.rowOther (k := g7) (D := bC 32 (F0 k)) h57)
        have K2 := Lib.hid (K1.out.setRow h75 (bC 32 (F0 k)))
        generalize v3.setRow g7 (bC 32 (F0 k)) = v4 at R7' R5' K2 ⊢
        clear R7 R5 K1
        go_wp2_with (first
          | (refine wpList_exec 51 rfl (by rfl) _ _ (load_h rfl rfl R5'.out) ?_)
          | (refine wpList_exec 52 rfl (by rfl) _ _ (load_h rfl rfl R7'.out) ?_)
          | (refine wpList_exec 53 rfl (by rfl) _ _ (execEqH1 (F0 k) hl _ rfl rfl rfl) ?_))
        refine (HA.out _).mono ?_
        rintro e v5 ⟨rfl, k5⟩
        replace K2 := Lib.hid (K2.out.trans k5)
        go_wp2_with fail
        go_ret
        exact ⟨rfl, K2.out⟩
      · have HX2 : Hid (X = F0 m) := Lib.hid (by rw [HX.out, if_neg c3])
        obtain rfl := HX2.out
        have g3 : decide ((k : Int) < (n0 : Int)) = false := decide_eq_false (by omega)
        have g3' : decide (k < n0) = false := decide_eq_false c3
        go_wp2_with (first
          | (refine wpList_exec 51 rfl (by rfl) _ _ (load_h rfl rfl R5.out) ?_)
          | (refine wpList_exec 52 rfl (by rfl) _ _ (load_h rfl rfl R7.out) ?_)
          | (refine wpList_exec 53 rfl (by rfl) _ _ (execEqH1 (F0 m) hl _ rfl rfl rfl) ?_))
        refine (HA.out _).mono ?_
        rintro e v5 ⟨rfl, k5⟩
        replace K1 := Lib.hid (K1.out.trans k5)
        go_wp2_with fail
        go_ret
        exact ⟨rfl, K1.out⟩
    · rw [decide_eq_false hy] at HB
      obtain rfl := HB.out
      have HX : Hid (X = zH) := Lib.hid (by have := HE.out; rwa [if_neg hy] at this)
      clear HE HB
      have g0 : Hid (decide (a1 < 0) = true ∨ (decide (a1 < 0) = false ∧ ((n0 : Int) == 0) = true)) := Lib.hid (by
        by_cases h : a1 < 0
        · exact .inl (decide_eq_true h)
        · refine .inr ⟨decide_eq_false h, ?_⟩
          have : n0 = 0 := by omega
          simp [this])
      obtain rfl := HX.out
      clear hy HX
      have HZ : Hid (∀ {o : Oper} {t : Array Value} (w : World), o.op = .build 24 #[] → (execOp (evS t) o).run Try.prog w = .ok (.value (.agg (bC 32 zH))) w) := Lib.hid fun w ho => execBuild_z w ho
      have hz : zH.length = 32 := zH_length
      generalize zH = Z at H1 HZ hz hl
      rcases g0.out with g1 | ⟨g1, g2⟩
      all_goals
        go_enter Try.func4, Try.ntmps4
        go_wp2_with fail
        refine H1.out.mono ?_
        rintro e v1 ⟨rfl, k1⟩
        have K1 := Lib.hid k1
        clear k1 H1
        go_wp2_with (first
          | (refine wpList_store_made rfl 24 _ _ rfl _ _ (bC 32 Z) rfl rfl 24 _ rfl (info_hash _) (by simp [bC_size]) (bC_one _ _) ?_; intro v2 R5 k2)
          | (refine park_at 28 rfl ?_))
        refine unpark ?_
        go_wp2_with (first
          | (refine wpList_exec 28 rfl (by rfl) _ _ (load_h rfl rfl R5.out) ?_)
          | (refine wpList_exec 29 rfl (by rfl) _ _ (HZ.out _ rfl) ?_)
          | (refine wpList_exec 30 rfl (by rfl) _ _ (execEqH1 Z hz _ rfl rfl rfl) ?_))
        replace K1 := Lib.hid (K1.out.trans k2.out)
        refine (HA.out _).mono ?_
        rintro e v5 ⟨rfl, k5⟩
        replace K1 := Lib.hid (K1.out.trans k5)
        go_wp2_with fail
        go_ret
        exact ⟨rfl, K1.out⟩

set_option maxRecDepth 100000 in
set_option maxHeartbeats 1000000 in
theorem lifted (os : Os) (started : os.Started) (H : Type) (enc : TypeId × Value → H) :
    ReturnsInHanded {} Try.checked os 4 .any (Rows.interEntriesSpec.pre6 enc Try.prog Try.f4 Rows.interEntriesRow.domain false) (Rows.interEntriesSpec.post enc Try.prog Try.f4 false true false false) := by
  refine returnsInHanded_of_change_sized (C := Try.checked) own started (by kernel_rfl) Try.func4
    (ChangeSpec.witness6 (enc := enc) (C := Try.checked) false ⟨#[], #[.slice none 0 0, .int .i64 0], []⟩ 8 (by kernel_rfl) (by kernel_rfl) (by kernel_rfl) (by kernel_rfl)) ?_
  intro W base args ds gs before hval0 hW hcnd hsz0 _
  have hval : ∀ (j : Nat) t v, Try.f4.params[j]? = some t → args[j]? = some v → Value.okWide Try.prog W .any base t v := hval0
  have hsz : (DataW.weightsEach Try.prog (Try.f4.params.toList ++ Rows.interEntriesSpec.plain.varTypes Try.prog) (ds ++ gs)).all (· ≤ reachBytes) = true := hsz0
  have hW' := hW
  obtain ⟨p, q, hA0, hV, rfl, hfz, hnd⟩ := hW
  have hA : DataW.TrodAll enc Try.prog W 0 (fun _ => true) true Try.f4.params.toList args.toList ds p := hA0
  have hAk := hA
  rw [Try.params4] at hA hval hsz
  obtain ⟨v0, vs0, d0, ds0, p0_, q0_, hargs, rfl, rfl, h0, r0_⟩ := trodAll_cons hA
  obtain ⟨v1, vs1, d1, ds1, p1_, q1_, rfl, rfl, rfl, h1, r1_⟩ := trodAll_cons r0_
  obtain ⟨rfl, rfl, rfl⟩ := trodAll_nil r1_
  obtain rfl : args = #[v0, v1] := by cases args; simp_all
  obtain ⟨rfl, rfl⟩ := trodVars_none hV
  have hlt : ∀ x ∈ (p0_ ++ (p1_ ++ ([]))), x.block < W.heap.size := fun x hx => by simpa using hW'.lt x (by simpa using hx)
  obtain ⟨p0, n0, c0, F0, z0, rfl, e0⟩ := open_hslice Try.underlying22 Try.underlying24 (by kernel_rfl) Try.underlying5 (by kernel_rfl) (hval 0 22 v0 rfl rfl) h0
  obtain ⟨a1, rfl, rfl, rfl, w1⟩ := open_int Try.underlying3 (hval 1 3 v1 rfl rfl) h1
  clear hA0 hval0
  refine (walk p0 n0 c0 F0 z0 a1 w1 W e0).mono fun e W' ⟨he, hg⟩ => ?_
  subst he
  exact ⟨_, rfl, ⟨_, _, _, [], _, [], hW', trodAll_cons_mk (shut_bool Try.underlying4 _) trodAll_mk0, trodAll_stays laidOut hg (by kernel_rfl) hAk hlt (fun x hx => by simpa using hlt x hx), rfl, Kept.frame hg _, fun h => by cases h⟩⟩

theorem over : Rows.interEntriesRow.holds Try.pinned (OpenSpec.ofChange Rows.interEntriesSpec) :=
  OpenClaim.holds_of_wide 4 Try.f4 rfl rfl rfl rfl rfl rfl rfl ⟨rfl, rfl, rfl, rfl, rfl⟩ rfl rfl rfl rfl rfl (by kernel_rfl) Try.func4 (by kernel_rfl)
    (of_decide_eq_true (by kernel_rfl)) (by unfold Func.isWrapper; first | (rw [if_pos (by decide +kernel)]; kernel_rfl) | (rw [if_neg (by decide +kernel)]; exact ⟨rfl, rfl⟩))
    (fun os started H enc _ => lifted os started H enc)
end Go.Proofs.Ytfadcibmkjpjoaa.interEntries
namespace Go.Proofs.Ytfadcibmkjpjoaa
theorem interEntries_holds : Rows.InterEntriesSaid := interEntries.over
#print axioms interEntries_holds
end Go.Proofs.Ytfadcibmkjpjoaa
