/-
  In every tree of at most 80 leaves no path of shape.Sides has more steps than the number of leaves less 1 has bits, shape.Depth says their number, and the paths of different leaves are different; the law's examples hold: 'ShapeApart' returns true for every input.
  Conditions: none.
-/
import Derived.Test.YtghphfioigekhaaRows
import Derived.Test.YtghphfioigekhaaShapeLaw
import Derived.Test.YtghphfioigekhaaLawLib
import Derived.WalkKit
import Derived.ProofKit
import Derived.OpenShut
import Derived.ShutString
import Derived.SizedLaws
import Derived.Test.YtghphfioigekhaaLawLib
namespace Go.Proofs.Ytghphfioigekhaa.shapeApart
open Go.ChangeShapes Go.WideShapes Go.ChangeAt Go.RowKit
open Go.ChangeMaps (open_string shut_string)
set_option linter.unusedVariables false

theorem own : ownKnob Try.prog.godebug = none := by kernel_rfl
theorem laidOut : laidOutB Try.prog = true := by kernel_rfl

set_option maxRecDepth 100000 in
set_option maxHeartbeats 4000000 in
theorem walk (a0 : Int) (w0 : (Lit.int .i64 a0).wf = true) (w : World)  :
    Calls Try.prog 5 #[.int .i64 a0] w fun e w' => e = .returned (.bool true) ∧ Kept w w' := by
  obtain ⟨hl, hu⟩ := bounds_i64 w0
  clear w0
  by_cases hout : a0 < 1 ∨ 80 < a0
  · by_cases h1 : a0 < 1
    · have hd1 : decide (a0 < 1) = true := decide_eq_true h1
      clear hout
      go_enter Try.func5, Try.ntmps5
      go_wp2_with (go_at_call 8; refine (awake11_any _).mono ?_; rintro e w4 ⟨rfl, k4⟩; have K4 := Lib.hid k4; clear k4)
      go_ret
      exact ⟨rfl, K4.out⟩
    · have hd1 : decide (a0 < 1) = false := decide_eq_false h1
      have h2 : 80 < a0 := by omega
      have hd2 : decide (a0 > 80) = true := decide_eq_true h2
      have h3 : 1 ≤ a0 := by omega
      clear hout h1
      go_enter Try.func5, Try.ntmps5
      go_wp2_with (go_at_call 8; refine (awake11_any _).mono ?_; rintro e w4 ⟨rfl, k4⟩; have K4 := Lib.hid k4; clear k4)
      go_ret
      exact ⟨rfl, K4.out⟩
  · obtain ⟨n, rfl⟩ := Int.eq_ofNat_of_zero_le (show 0 ≤ a0 by omega)
    have hn1 : 1 ≤ n := by omega
    have hn80 : n ≤ 80 := by omega
    have hd1 : decide ((n : Int) < 1) = false := decide_eq_false (by omega)
    have hd2 : decide ((n : Int) > 80) = false := decide_eq_false (by omega)
    have hp1 : 1 ≤ (n : Int) := by omega
    have hp2 : (n : Int) ≤ 80 := by omega
    clear hout hl hu
    go_enter Try.func5, Try.ntmps5
    go_wp2
    go_loop [3, 4] (fun a b => ∃ (m k : Nat), m ≤ 80 ∧ a = .int .i64 (m : Int) ∧ b = .int .i64 (k : Int) ∧ k ≤ 80 - m ∧ Hid (k = (n - 1) / 2 ^ m)) (fun _ b => (intOf b).toNat)
    case atStart => exact ⟨0, n - 1, by omega, rfl, by congr 1; omega, by omega, Lib.hid (by simp)⟩
    case round =>
      obtain ⟨m, k, hm, rfl, rfl, hkm, HK⟩ := hrel
      by_cases hk : 0 < k
      · have hdk : decide ((k : Int) > 0) = true := decide_eq_true (by omega)
        obtain ⟨k2, hk2⟩ : ∃ k2, k2 = k / 2 := ⟨_, rfl⟩
        have HN : Hid (k2 = (n - 1) / 2 ^ (m + 1)) := Lib.hid (by rw [hk2, HK.out, Nat.pow_succ, Nat.div_div_eq_div_mul])
        have hk3 : k2 < k := by omega
        have HQ : Hid (Value.int .i64 ((k : Int) / 2) = Value.int .i64 (k2 : Int)) := Lib.hid (by congr 1; omega)
        clear hk2
        go_wp2
        go_round
        case rel => exact ⟨m + 1, k2, by omega, by go_num, HQ.out, by omega, HN⟩
        case measure => simp [intOf]; omega
      · obtain rfl : k = 0 := by omega
        have HM : Hid (n ≤ 2 ^ m) := Lib.hid (by
          have h := HK.out
          have hp : 0 < 2 ^ m := Nat.pow_pos (by decide)
          have := Nat.lt_of_div_eq_zero hp h.symm
          omega)
        clear HK hkm hk
        have K0 := Lib.hid (Kept.refl w)
        go_wp2
        go_loopw [5] (fun a wr => ∃ i : Nat, i ≤ n ∧ a = .int .i64 (i : Int) ∧ Hid (Kept w wr)) (fun a _ => n - (intOf a).toNat)
        case atStart => exact ⟨0, by omega, rfl, K0⟩
        case round =>
          clear K0
          obtain ⟨i, hin, rfl, KI⟩ := hrel
          obtain ⟨wo, hwo⟩ : ∃ wo, wo = wr := ⟨_, rfl⟩
          subst hwo
          by_cases hi : i < n
          · have hdi : decide ((i : Int) < (n : Int)) = true := decide_eq_true (by omega)
            have hdi' : decide (i < n) = true := decide_eq_true hi
            have hdm : (dn n i).length ≤ m := dn_len m n i HM.out
            have h63 := dn_len63 (n := n) i (by omega)
            have HD : Hid (∀ w, Calls Try.prog 12 #[.int .i64 (n : Int), .int .i64 (i : Int)] w fun e w' => e = .returned (.int .i64 ((dn n i).length : Int)) ∧ Kept w w') := Lib.hid fun w => by
              have h := shapeDepth_any (n : Int) (i : Int) w (by omega)
              rwa [depthI_yes hi] at h
            have HS : Hid (∀ w, Calls Try.prog 10 #[.int .i64 (n : Int), .int .i64 (i : Int)] w fun e w' => ∃ v, e = .returned v ∧ BRow w' v (sidesN n i) ∧ Kept w w') := Lib.hid fun w => by
              have h := shapeSides_any (n : Int) (i : Int) w (by omega)
              rwa [sidesI_yes hi] at h
            have HS1 : Hid (∀ w, Calls Try.prog 10 #[.int .i64 (n : Int), .int .i64 (i : Int)] w fun e w' => ∃ p cap, e = .returned (.slice p (dn n i).length cap) ∧ Kept w w') := Lib.hid fun w => by
              refine (HS.out w).mono ?_
              rintro e w' ⟨v, rfl, ⟨p, cap, rfl, _⟩, hk⟩
              exact ⟨p, cap, by rw [sidesN_length], hk⟩
            have hls : (sidesN n i).length ≤ 1000 := by rw [sidesN_length]; omega
            generalize (dn n i).length = d at HD HS1 hdm h63
            have hdd : decide ((d : Int) > (m : Int)) = false := decide_eq_false (by omega)
            have hdd' : decide (m < d) = false := decide_eq_false (by omega)
            have hdd2 : (d : Int) ≤ (m : Int) := by omega
            go_wp2_with fail
            refine (HD.out _).mono ?_
            rintro e w1 ⟨rfl, k1⟩
            have K1 := Lib.hid (KI.out.trans k1)
            clear k1
            go_wp2_with fail
            refine (HD.out _).mono ?_
            rintro e w2 ⟨rfl, k2⟩
            have K2 := Lib.hid (K1.out.trans k2)
            clear k2 K1
            go_wp2_with fail
            refine (HS1.out _).mono ?_
            rintro e w3 ⟨p3, cap3, rfl, k3⟩
            have K3 := Lib.hid (K2.out.trans k3)
            clear k3 K2 HD HS1
            go_wp2_with fail
            go_loopw [6] (fun a wr => ∃ k : Nat, k ≤ i ∧ a = .int .i64 (k : Int) ∧ Hid (Kept w wr)) (fun a _ => i - (intOf a).toNat)
            case atStart => exact ⟨0, by omega, rfl, K3⟩
            case round =>
              clear K3
              obtain ⟨k, hki, rfl, KK⟩ := hrel
              by_cases hk : k < i
              · have hdk : decide ((k : Int) < (i : Int)) = true := decide_eq_true (by omega)
                have hdk' : decide (k < i) = true := decide_eq_true hk
                have HSk : Hid (∀ w, Calls Try.prog 10 #[.int .i64 (n : Int), .int .i64 (k : Int)] w fun e w' => ∃ v, e = .returned v ∧ BRow w' v (sidesN n k) ∧ Kept w w') := Lib.hid fun w => by
                  have h := shapeSides_any (n : Int) (k : Int) w (by omega)
                  rwa [sidesI_yes (by omega)] at h
                have HF : Hid (decide (sidesN n i = sidesN n k) = false) := Lib.hid (decide_eq_false fun e => by have := sidesN_inj hi (by omega) e; omega)
                generalize sidesN n k = lk at HSk HF
                generalize sidesN n i = li at HS HF hls
                go_wp2_with fail
                refine (HS.out _).mono ?_
                rintro e w4 ⟨v4, rfl, b4, k4⟩
                have K4 := Lib.hid (KK.out.trans k4)
                have B4 := Lib.hid b4
                clear k4 b4
                go_wp2_with fail
                refine (HSk.out _).mono ?_
                rintro e w5 ⟨v5, rfl, b5, k5⟩
                have K5 := Lib.hid (K4.out.trans k5)
                replace B4 := Lib.hid (B4.out.kept k5)
                have B5 := Lib.hid b5
                clear k5 b5 K4
                go_wp2_with fail
                refine (same11_any li lk _ _ _ B4.out B5.out hls).mono ?_
                rw [HF.out]
                rintro e w6 ⟨rfl, k6⟩
                have K6 := Lib.hid (K5.out.trans k6)
                clear k6 K5 B4 B5
                go_wp2_with fail
                go_roundw
                case rel => exact ⟨k + 1, by omega, by go_num, K6⟩
                case measure => simp [intOf]; omega
              · have hdk : decide ((k : Int) < (i : Int)) = false := decide_eq_false (by omega)
                have hdk' : decide (k < i) = false := decide_eq_false hk
                go_wp2_with fail
                go_roundw
                case rel => exact ⟨i + 1, by omega, by go_num, KK⟩
                case measure => simp [intOf]; omega
          · have hdi : decide ((i : Int) < (n : Int)) = false := decide_eq_false (by omega)
            have hdi' : decide (i < n) = false := decide_eq_false hi
            go_wp2_with (go_at_call 8; refine (awake11_any _).mono ?_; rintro e w4 ⟨rfl, k4⟩; have K4 := Lib.hid (KI.out.trans k4); clear k4)
            go_ret
            exact ⟨rfl, K4.out⟩

set_option maxRecDepth 100000 in
set_option maxHeartbeats 1000000 in
theorem lifted (os : Os) (started : os.Started) (H : Type) (enc : TypeId × Value → H) :
    ReturnsInHanded {} Try.checked os 5 .any (Rows.shapeApartSpec.pre6 enc Try.prog Try.f5 Rows.shapeApartRow.domain false) (Rows.shapeApartSpec.post enc Try.prog Try.f5 false true false false) := by
  refine returnsInHanded_of_change_sized (C := Try.checked) own started (by kernel_rfl) Try.func5
    (ChangeSpec.witness6 (enc := enc) (C := Try.checked) false ⟨#[], #[.int .i64 0], []⟩ 8 (by kernel_rfl) (by kernel_rfl) (by kernel_rfl) (by kernel_rfl)) ?_
  intro W base args ds gs before hval0 hW hcnd hsz0 _
  have hval : ∀ (j : Nat) t v, Try.f5.params[j]? = some t → args[j]? = some v → Value.okWide Try.prog W .any base t v := hval0
  have hsz : (DataW.weightsEach Try.prog (Try.f5.params.toList ++ Rows.shapeApartSpec.plain.varTypes Try.prog) (ds ++ gs)).all (· ≤ reachBytes) = true := hsz0
  have hW' := hW
  obtain ⟨p, q, hA0, hV, rfl, hfz, hnd⟩ := hW
  have hA : DataW.TrodAll enc Try.prog W 0 (fun _ => true) true Try.f5.params.toList args.toList ds p := hA0
  have hAk := hA
  rw [Try.params5] at hA hval hsz
  obtain ⟨v0, vs0, d0, ds0, p0_, q0_, hargs, rfl, rfl, h0, r0_⟩ := trodAll_cons hA
  obtain ⟨rfl, rfl, rfl⟩ := trodAll_nil r0_
  obtain rfl : args = #[v0] := by cases args; simp_all
  obtain ⟨rfl, rfl⟩ := trodVars_none hV
  have hlt : ∀ x ∈ (p0_ ++ ([])), x.block < W.heap.size := fun x hx => by simpa using hW'.lt x (by simpa using hx)
  obtain ⟨a0, rfl, rfl, rfl, w0⟩ := open_int Try.underlying3 (hval 0 3 v0 rfl rfl) h0
  clear hA0 hval0
  refine (walk a0 w0 W ).mono fun e W' ⟨he, hg⟩ => ?_
  subst he
  exact ⟨_, rfl, ⟨_, _, _, [], _, [], hW', trodAll_cons_mk (shut_bool Try.underlying4 _) trodAll_mk0, trodAll_stays laidOut hg (by kernel_rfl) hAk hlt (fun x hx => by simpa using hlt x hx), rfl, Kept.frame hg _, fun h => by cases h⟩⟩

theorem over : Rows.shapeApartRow.holds Try.pinned (OpenSpec.ofChange Rows.shapeApartSpec) :=
  OpenClaim.holds_of_wide 5 Try.f5 rfl rfl rfl rfl rfl rfl rfl ⟨rfl, rfl, rfl, rfl, rfl⟩ rfl rfl rfl rfl rfl (by kernel_rfl) Try.func5 (by kernel_rfl)
    (of_decide_eq_true (by kernel_rfl)) (by unfold Func.isWrapper; first | (rw [if_pos (by decide +kernel)]; kernel_rfl) | (rw [if_neg (by decide +kernel)]; exact ⟨rfl, rfl⟩))
    (fun os started H enc _ => lifted os started H enc)
end Go.Proofs.Ytghphfioigekhaa.shapeApart
namespace Go.Proofs.Ytghphfioigekhaa
theorem shapeApart_holds : Rows.ShapeApartSaid := shapeApart.over
#print axioms shapeApart_holds
end Go.Proofs.Ytghphfioigekhaa
