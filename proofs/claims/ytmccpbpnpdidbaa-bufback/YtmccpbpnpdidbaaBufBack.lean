/-
  What is put into a buffer, in at most 100 steps, a cursor over its bytes takes, value by value and without an error, and nothing is left; the law's example holds: 'BufBack' returns true for every input.
  Conditions: none.
-/
import Derived.Test.YtmccpbpnpdidbaaRows
import Derived.Test.YtmccpbpnpdidbaaBufLawB
import Derived.Test.YtmccpbpnpdidbaaLawLibD
import Derived.WalkKit
import Derived.ProofKit
import Derived.OpenShut
import Derived.ShutString
import Derived.SizedLaws
import Derived.Test.YtmccpbpnpdidbaaLawLib
namespace Go.Proofs.Ytmccpbpnpdidbaa.bufBack
open Go.ChangeShapes Go.WideShapes Go.ChangeAt Go.RowKit
open Go.ChangeMaps (open_string shut_string)
set_option linter.unusedVariables false

theorem own : ownKnob Try.prog.godebug = none := by kernel_rfl
theorem laidOut : laidOutB Try.prog = true := by kernel_rfl

set_option maxRecDepth 100000 in
set_option maxHeartbeats 4000000 in
theorem walk (p0 : Option Addr) (n0 c0 : Nat) (z0 : n0 ≤ maxLen) (w : World) (e0 : ∀ i, i < n0 → ∃ (k : Int) (S : ByteArray) (m : Nat) (l : List UInt8), (S.size ≤ maxLen ∧ m < 18446744073709551616 ∧ l.length = 32) ∧ StepAt9 w p0 i k S m l) :
    Calls Try.prog 4 #[.slice p0 n0 c0] w fun e w' => e = .returned (.bool true) ∧ Kept w w' := by
  have HM := Lib.hid (much9_any p0 n0 c0 w z0 e0)
  have each : ∀ i, i < n0 → ∃ F : Int × ByteArray × Nat × List UInt8, (F.2.1.size ≤ maxLen ∧ F.2.2.1 < 18446744073709551616 ∧ F.2.2.2.length = 32) ∧ StepAt9 w p0 i F.1 F.2.1 F.2.2.1 F.2.2.2 := fun i hi => by
    obtain ⟨k, S, m, l, h1, h2⟩ := e0 i hi
    exact ⟨(k, S, m, l), h1, h2⟩
  obtain ⟨F, hF⟩ := Deep.choose_lt each
  have HF := Lib.hid hF
  have hz0 : n0 ≤ 9223372036854775807 := z0
  clear e0 z0 hF each
  go_enter Try.func4, Try.ntmps4
  go_wp2_with fail
  refine HM.out.mono ?_
  rintro e w1 ⟨B, rfl, rfl, hB⟩
  cases B with
  | true =>
    go_wp2_with fail
    refine (awake9_any w).mono ?_
    rintro e w1 ⟨rfl, K1⟩
    replace K1 := Lib.hid K1
    go_wp2_with fail
    go_ret
    exact ⟨rfl, K1.out⟩
  | false =>
    obtain ⟨hn100, hsz⟩ := hB rfl
    obtain ⟨X, HX⟩ : ∃ X : Nat → ByteArray, Hid (∀ i, i < n0 → ∃ (k : Int) (S : ByteArray) (m : Nat) (l : List UInt8), X i = putB k S m l ∧ (S.size ≤ 2000 ∧ m < 18446744073709551616 ∧ l.length = 32) ∧ StepAt9 w p0 i k S m l) :=
      ⟨fun i => putB (F i).1 (F i).2.1 (F i).2.2.1 (F i).2.2.2, Lib.hid fun i hi => ⟨_, _, _, _, rfl, ⟨hsz i _ _ _ _ hi (HF.out i hi).2, (HF.out i hi).1.2⟩, (HF.out i hi).2⟩⟩
    clear hB hsz HM HF
    go_wp2_with fail
    refine (bufNew_any w).mono ?_
    rintro e w1 ⟨rfl, B1, G1⟩
    obtain ⟨g, hg⟩ : ∃ g, g = w.heap.size := ⟨_, rfl⟩
    have hgw : w.heap.size ≤ g := by omega
    rw [← hg] at B1 ⊢
    clear hg
    replace B1 : Hid (BufAt w1 g none (preX X 0)) := Lib.hid B1
    replace G1 := Lib.hid (Grown.kept G1)
    have OV : Hid (Over w.heap.size (some g) none) := Lib.hid (fun k hk => by
      rcases hk with hk | hk
      · rw [← Option.some.inj hk]; exact hgw
      · cases hk)
    go_wp2_with fail
    go_loopw [4] (fun i wr => ∃ (k : Nat) (r : Option Nat), i = .int .i64 (k : Int) ∧ k ≤ n0 ∧ (preX X k).size ≤ 4000 * k ∧ Hid (BufAt wr g r (preX X k)) ∧ Hid (Over w.heap.size (some g) r) ∧ Hid (Kept w wr)) (fun i _ => n0 - (intOf i).toNat)
    case atStart => exact ⟨0, none, rfl, by omega, Nat.le_refl 0, B1, OV, G1⟩
    case round =>
      clear B1 G1 OV
      obtain ⟨k, r, rfl, hk, hs, B1, OV, K1⟩ := hrel
      by_cases hlt : k < n0
      · have hd : decide ((k : Int) < (n0 : Int)) = true := decide_eq_true (by omega)
        have hd' : decide (k < n0) = true := decide_eq_true (by omega)
        obtain ⟨k', S, m, l, hX, ⟨hS, hm, hl⟩, hst⟩ := HX.out k hlt
        obtain ⟨q, rfl⟩ : ∃ q, p0 = some q := by obtain ⟨q, h, _⟩ := hst; exact ⟨q, h⟩
        have HA := Lib.hid (hst.kept K1.out)
        have HD := Lib.hid (do9_any (.pointer (some ⟨g, 0, none⟩)) (some g) r (preX X k) k' S m l wr (.inr ⟨g, rfl, rfl, B1.out⟩) hl hm hS (by omega))
        have hz := putB_size k' S m l hS hm hl
        have HX2 : Hid (preX X k ++ putB k' S m l = preX X (k + 1)) := Lib.hid (by rw [← hX]; rfl)
        have hs2 : (preX X (k + 1)).size ≤ 4000 * (k + 1) := by rw [← HX2.out, ByteArray.size_append]; omega
        clear hst hX hS hm hl hz
        go_wp2_with (refine park_at 21 rfl ?_)
        refine unpark ?_
        refine wpList_exec 21 rfl (by rfl) (.agg (stp k' S m l)) _ (execLoadAny rfl rfl HA.out.load) ?_
        go_wp2_with (go_at_call 8; refine HD.out.mono ?_; rintro e w2 ⟨rfl, r2, B2, W2⟩; replace B2 := Lib.hid B2; replace W2 := Lib.hid W2)
        go_roundw
        case measure => simp [intOf]; omega
        case rel =>
          refine ⟨k + 1, r2, by go_num, by omega, hs2, Lib.hid ?_, Lib.hid (OV.out.wrote W2.out K1.out.size), Lib.hid (W2.out.kept K1.out OV.out)⟩
          rcases B2.out with ⟨h, _⟩ | ⟨b, _, h2, h3⟩
          · cases h
          · rw [HX2.out] at h3
            rwa [← Option.some.inj h2] at h3
      · have hd : decide ((k : Int) < (n0 : Int)) = false := decide_eq_false (by omega)
        have hd' : decide (k < n0) = false := decide_eq_false (by omega)
        obtain rfl : k = n0 := by omega
        go_wp2_with fail
        refine (bufBytes_any g r _ wr B1.out).mono ?_
        rintro e w2 ⟨rfl, rfl⟩
        go_wp2_with fail
        refine (curRead_any _ wr).mono ?_
        rintro e w2 ⟨rfl, C2, G2⟩
        obtain ⟨g2, hg2⟩ : ∃ g2, g2 = wr.heap.size := ⟨_, rfl⟩
        have hgw2 : w.heap.size ≤ g2 := by have := K1.out.size; omega
        rw [← hg2] at C2 ⊢
        clear hg2
        have C3 : Hid (CurAt w2 g2 ⟨sufX X 0 (k - 0), 0⟩) := Lib.hid (by rw [Nat.sub_zero, ← pre_all]; exact C2)
        have K2 : Hid (Kept w w2) := Lib.hid (K1.out.trans (Grown.kept G2))
        clear B1 OV K1 C2 G2 hd hd' hlt hs hk
        go_wp2_with fail
        go_loopw [6] (fun i wr => ∃ (j : Nat), i = .int .i64 (j : Int) ∧ j ≤ k ∧ Hid (CurAt wr g2 ⟨sufX X j (k - j), 0⟩) ∧ Hid (Kept w wr)) (fun i _ => k - (intOf i).toNat)
        case atStart => exact ⟨0, rfl, by omega, C3, K2⟩
        case round =>
          clear C3 K2
          obtain ⟨j, rfl, hj, C3, K2⟩ := hrel
          by_cases hlt : j < k
          · have hd : decide ((j : Int) < (k : Int)) = true := decide_eq_true (by omega)
            have hd' : decide (j < k) = true := decide_eq_true (by omega)
            obtain ⟨k', S, m, l, hX, ⟨hS, hm, hl⟩, hst⟩ := HX.out j hlt
            obtain ⟨q, rfl⟩ : ∃ q, p0 = some q := by obtain ⟨q, h, _⟩ := hst; exact ⟨q, h⟩
            have HA := Lib.hid (hst.kept K2.out)
            have hc := C3.out
            rw [suf_step X j k hlt, hX] at hc
            have HD := Lib.hid (back9_any g2 _ k' S m l _ hc hl hm hS)
            clear hst hX hS hm hl hc
            go_wp2_with (refine park_at 36 rfl ?_)
            refine unpark ?_
            refine wpList_exec 36 rfl (by rfl) (.agg (stp k' S m l)) _ (execLoadAny rfl rfl HA.out.load) ?_
            go_wp2_with (go_at_call 12; refine HD.out.mono ?_; rintro e w3 ⟨rfl, C4, O4⟩; have HE := Lib.hid (curErr_any g2 _ w3 C4); replace C4 := Lib.hid C4; replace O4 := Lib.hid O4)
            refine HE.out.mono ?_
            rintro e w4 ⟨rfl, rfl⟩
            go_wp2_with fail
            go_roundw
            case measure => simp [intOf]; omega
            case rel => exact ⟨j + 1, by go_num, by omega, C4, Lib.hid (O4.out.kept w K2.out hgw2)⟩
          · have hd : decide ((j : Int) < (k : Int)) = false := decide_eq_false (by omega)
            have hd' : decide (j < k) = false := decide_eq_false (by omega)
            obtain rfl : j = k := by omega
            have hc := C3.out
            rw [suf_end] at hc
            have HE := curDone_any g2 ⟨noB, 0⟩ _ hc
            rw [show doneC ⟨noB, 0⟩ = 0 from rfl] at HE
            replace HE := Lib.hid HE
            clear hc
            go_wp2_with fail
            refine HE.out.mono ?_
            rintro e w4 ⟨rfl, rfl⟩
            go_wp2_with fail
            refine (awake9_any _).mono ?_
            rintro e w5 ⟨rfl, K5⟩
            replace K5 := Lib.hid (K2.out.trans K5)
            go_wp2_with fail
            go_ret
            exact ⟨rfl, K5.out⟩

set_option maxRecDepth 100000 in
set_option maxHeartbeats 1000000 in
theorem lifted (os : Os) (started : os.Started) (H : Type) (enc : TypeId × Value → H) :
    ReturnsInHanded {} Try.checked os 4 .any (Rows.bufBackSpec.pre6 enc Try.prog Try.f4 Rows.bufBackRow.domain false) (Rows.bufBackSpec.post enc Try.prog Try.f4 false true false false) := by
  refine returnsInHanded_of_change_sized (C := Try.checked) own started (by kernel_rfl) Try.func4
    (ChangeSpec.witness6 (enc := enc) (C := Try.checked) false ⟨#[], #[.slice none 0 0], []⟩ 8 (by kernel_rfl) (by kernel_rfl) (by kernel_rfl) (by kernel_rfl)) ?_
  intro W base args ds gs before hval0 hW hcnd hsz0 _
  have hval : ∀ (j : Nat) t v, Try.f4.params[j]? = some t → args[j]? = some v → Value.okWide Try.prog W .any base t v := hval0
  have hsz : (DataW.weightsEach Try.prog (Try.f4.params.toList ++ Rows.bufBackSpec.plain.varTypes Try.prog) (ds ++ gs)).all (· ≤ reachBytes) = true := hsz0
  have hW' := hW
  obtain ⟨p, q, hA0, hV, rfl, hfz, hnd⟩ := hW
  have hA : DataW.TrodAll enc Try.prog W 0 (fun _ => true) true Try.f4.params.toList args.toList ds p := hA0
  have hAk := hA
  rw [Try.params4] at hA hval hsz
  obtain ⟨v0, vs0, d0, ds0, p0_, q0_, hargs, rfl, rfl, h0, r0_⟩ := trodAll_cons hA
  obtain ⟨rfl, rfl, rfl⟩ := trodAll_nil r0_
  obtain rfl : args = #[v0] := by cases args; simp_all
  obtain ⟨rfl, rfl⟩ := trodVars_none hV
  have hlt : ∀ x ∈ (p0_ ++ ([])), x.block < W.heap.size := fun x hx => by simpa using hW'.lt x (by simpa using hx)
  obtain ⟨p0, n0, c0, z0, rfl, e0⟩ := open_recsArg Try.underlying22 Try.underlying35 (by kernel_rfl) ⟨rfl, rfl, rfl, rfl⟩ ⟨by kernel_rfl, by kernel_rfl, by kernel_rfl, by kernel_rfl⟩ Try.underlying3 Try.underlying9 Try.underlying31 Try.underlying33 Try.underlying5 (by kernel_rfl) (hval 0 22 v0 rfl rfl) h0
  clear hA0 hval0
  refine (walk p0 n0 c0 z0 W e0).mono fun e W' ⟨he, hg⟩ => ?_
  subst he
  exact ⟨_, rfl, ⟨_, _, _, [], _, [], hW', trodAll_cons_mk (shut_bool Try.underlying4 _) trodAll_mk0, trodAll_stays laidOut hg (by kernel_rfl) hAk hlt (fun x hx => by simpa using hlt x hx), rfl, Kept.frame hg _, fun h => by cases h⟩⟩

theorem over : Rows.bufBackRow.holds Try.pinned (OpenSpec.ofChange Rows.bufBackSpec) :=
  OpenClaim.holds_of_wide 4 Try.f4 rfl rfl rfl rfl rfl rfl rfl ⟨rfl, rfl, rfl, rfl, rfl⟩ rfl rfl rfl rfl rfl (by kernel_rfl) Try.func4 (by kernel_rfl)
    (of_decide_eq_true (by kernel_rfl)) (by unfold Func.isWrapper; first | (rw [if_pos (by decide +kernel)]; kernel_rfl) | (rw [if_neg (by decide +kernel)]; exact ⟨rfl, rfl⟩))
    (fun os started H enc _ => lifted os started H enc)
end Go.Proofs.Ytmccpbpnpdidbaa.bufBack
namespace Go.Proofs.Ytmccpbpnpdidbaa
theorem bufBack_holds : Rows.BufBackSaid := bufBack.over
#print axioms bufBack_holds
end Go.Proofs.Ytmccpbpnpdidbaa
