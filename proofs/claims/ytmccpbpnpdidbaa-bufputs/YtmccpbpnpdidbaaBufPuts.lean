/-
  Whatever is put into a new buffer, in at most 100 steps, stands there byte for byte as the reference says; so it does in a zero buffer, and none holds nothing; the law's example holds: 'BufPuts' returns true for every input.
  Conditions: none.
-/
import Derived.Test.YtmccpbpnpdidbaaRows
import Derived.Test.YtmccpbpnpdidbaaBufLaw
import Derived.Test.YtmccpbpnpdidbaaLawLibD
import Derived.WalkKit
import Derived.ProofKit
import Derived.OpenShut
import Derived.ShutString
import Derived.SizedLaws
import Derived.Test.YtmccpbpnpdidbaaLawLib
namespace Go.Proofs.Ytmccpbpnpdidbaa.bufPuts
open Go.ChangeShapes Go.WideShapes Go.ChangeAt Go.RowKit
open Go.ChangeMaps (open_string shut_string)
set_option linter.unusedVariables false

theorem own : ownKnob Try.prog.godebug = none := by kernel_rfl
theorem laidOut : laidOutB Try.prog = true := by kernel_rfl

set_option maxRecDepth 100000 in
set_option maxHeartbeats 4000000 in
theorem walk (p0 : Option Addr) (n0 c0 : Nat) (z0 : n0 ≤ maxLen) (w : World) (e0 : ∀ i, i < n0 → ∃ (k : Int) (S : ByteArray) (m : Nat) (l : List UInt8), (S.size ≤ maxLen ∧ m < 18446744073709551616 ∧ l.length = 32) ∧ StepAt9 w p0 i k S m l) :
    Calls Try.prog 3 #[.slice p0 n0 c0] w fun e w' => e = .returned (.bool true) ∧ Kept w w' := by
  have HM := Lib.hid (much9_any p0 n0 c0 w z0 e0)
  have HS : Hid (∀ i, i < n0 → ∃ (k : Int) (S : ByteArray) (m : Nat) (l : List UInt8), (S.size ≤ maxLen ∧ m < 18446744073709551616 ∧ l.length = 32) ∧ StepAt9 w p0 i k S m l) := Lib.hid e0
  have hz0 : n0 ≤ 9223372036854775807 := z0
  clear e0 z0
  go_enter Try.func3, Try.ntmps3
  go_wp2_with fail
  refine HM.out.mono ?_
  rintro e w1 ⟨B, rfl, rfl, hB⟩
  cases B with
  | true =>
    go_wp2_with fail
    refine (awake9_any w).mono ?_
    rintro e w1 ⟨rfl, K1⟩
    replace K1 := Lib.hid K1
    go_wp2_with fail
    go_ret
    exact ⟨rfl, K1.out⟩
  | false =>
    obtain ⟨hn100, hsz⟩ := hB rfl
    have HZ := Lib.hid hsz
    clear hB hsz HM
    go_wp2_with fail
    refine (bufNew_any w).mono ?_
    rintro e w1 ⟨rfl, B1, G1⟩
    obtain ⟨g, hg⟩ : ∃ g, g = w.heap.size := ⟨_, rfl⟩
    have hgw : w.heap.size ≤ g := by omega
    rw [← hg] at B1 ⊢
    clear hg
    replace B1 := Lib.hid B1
    replace G1 := Lib.hid (Grown.kept G1)
    go_wp2_with fail
    obtain ⟨g2, hg2⟩ : ∃ g2, g2 = w1.heap.size := ⟨_, rfl⟩
    have PA : Hid (Pair w (w1.alloc (.cells #[.slice none 0 0] 29)) g g2 none none noB noB) := Lib.hid (by
      have hl := B1.out.lt.1
      have hk := G1.out.size
      refine ⟨⟨B1.out.kept ((Kept.refl w1).alloc _), ⟨_, hg2 ▸ Rowz.new w1 _ _, World.ownsRow_nil _ _ _ _, rfl, nofun⟩⟩, ⟨by omega, nofun, nofun, fun k h => by cases h⟩, G1.out.alloc _, ?_, ?_⟩
      · intro k hk
        rcases hk with hk | hk
        · rw [← Option.some.inj hk]; exact hgw
        · cases hk
      · intro k hk
        rcases hk with hk | hk
        · rw [← Option.some.inj hk]; omega
        · cases hk)
    rw [← hg2]
    clear hg2 B1 G1
    go_loopw [6, 7] (fun a i wr => ∃ (s : ByteArray) (k : Nat) (r1 r2 : Option Nat), a = .string s ∧ i = .int .i64 (k : Int) ∧ k ≤ n0 ∧ s.size ≤ 4000 * k ∧ Hid (Pair w wr g g2 r1 r2 s s)) (fun _ i _ => n0 - (intOf i).toNat)
    case atStart => exact ⟨noB, 0, none, none, rfl, rfl, by omega, by decide, PA⟩
    case round =>
      clear PA
      obtain ⟨s, k, r1, r2, rfl, rfl, hk, hs, PA⟩ := hrel
      by_cases hlt : k < n0
      · have hd : decide ((k : Int) < (n0 : Int)) = true := decide_eq_true (by omega)
        have hd' : decide (k < n0) = true := decide_eq_true (by omega)
        obtain ⟨k', S, m, l, ⟨_, hm, hl⟩, hst⟩ := HS.out k hlt
        obtain ⟨q, rfl⟩ : ∃ q, p0 = some q := by obtain ⟨q, h, _⟩ := hst; exact ⟨q, h⟩
        have hS := HZ.out k k' S m l hlt hst
        have HA := Lib.hid hst
        obtain ⟨X, hX, hD⟩ : ∃ X : ByteArray, X.size ≤ 4000 ∧ ∀ (V : Value) (g r : Option Nat) (s : ByteArray) (w : World), BufV w V g r s → s.size ≤ 1000000 → Calls Try.prog 8 #[V, .agg (stp k' S m l)] w fun e w' => e = .returned (.string X) ∧ ∃ r', BufV w' V g r' (s ++ X) ∧ Wrote g r w r' w' :=
          ⟨_, putB_size k' S m l hS hm hl, fun V g r s w h hs => do9_any V g r s k' S m l w h hl hm hS hs⟩
        have HD := Lib.hid hD
        clear hst hD hS hm hl
        have L1 := Lib.hid (HA.out.kept PA.out.2.2.1)
        have hadd : ¬ (9223372036854775807 < s.size + X.size) := by omega
        have hs6 : s.size ≤ 1000000 := by omega
        have hsx : (s ++ X).size ≤ 4000 * (k + 1) := by rw [ByteArray.size_append]; omega
        go_wp2_with (refine park_at 25 rfl ?_)
        refine unpark ?_
        refine wpList_exec 25 rfl (by rfl) (.agg (stp k' S m l)) _ (execLoadAny rfl rfl L1.out.load) ?_
        clear L1
        go_wp2_with (first
          | (go_at_call 8; refine (HD.out _ (some g) r1 s wr (.inr ⟨g, rfl, rfl, PA.out.1.1⟩) hs6).mono ?_; rintro e w1 ⟨rfl, ra, B1, W1⟩; have PB := Lib.hid (PA.out.put B1 W1); clear B1 W1)
          | (refine park_at 32 rfl ?_))
        refine unpark ?_
        refine wpList_exec 32 rfl (by rfl) (.agg (stp k' S m l)) _ (execLoadAny rfl rfl (HA.out.kept PB.out.2.2.1).load) ?_
        go_wp2_with (first
          | (go_at_call 8; refine (HD.out _ (some g2) r2 s w1 (.inr ⟨g2, rfl, rfl, PB.out.1.2⟩) hs6).mono ?_; rintro e w2 ⟨rfl, rb, B2, W2⟩; have PC := Lib.hid (PB.out.symm.put B2 W2).symm; clear B2 W2)
          | (refine park_at 38 rfl ?_))
        refine unpark ?_
        refine wpList_exec 38 rfl (by rfl) (.agg (stp k' S m l)) _ (execLoadAny rfl rfl (HA.out.kept PC.out.2.2.1).load) ?_
        go_wp2_with (first
          | (go_at_call 8; refine (HD.out _ none none s w2 (BufV.nil _ _) hs6).mono ?_; rintro e w3 ⟨rfl, rc, B3, W3⟩; have PD := Lib.hid (PC.out.kept W3.none); clear B3 W3)
          | (go_at_call 9; refine (bufLen_any g ra (s ++ X) w3 PD.out.1.1).mono ?_; rintro e w4 ⟨rfl, rfl⟩))
        go_roundw
        case measure => simp [intOf]; omega
        case rel => exact ⟨s ++ X, k + 1, ra, rb, rfl, by go_num, by omega, hsx, PD⟩
      · have hd : decide ((k : Int) < (n0 : Int)) = false := decide_eq_false (by omega)
        have hd' : decide (k < n0) = false := decide_eq_false (by omega)
        go_wp2_with fail
        refine (bufBytes_any g r1 s wr PA.out.1.1).mono ?_
        rintro e w4 ⟨rfl, rfl⟩
        go_wp2_with fail
        refine (bufBytes_any g2 r2 s _ PA.out.1.2).mono ?_
        rintro e w4 ⟨rfl, rfl⟩
        go_wp2_with fail
        refine (bufLen_nil _).mono ?_
        rintro e w4 ⟨rfl, rfl⟩
        go_wp2_with fail
        refine (bufBytes_nil _).mono ?_
        rintro e w4 ⟨rfl, rfl⟩
        have hE := isE_yes
        go_wp2_with fail
        refine (awake9_any _).mono ?_
        rintro e w5 ⟨rfl, K5⟩
        replace K5 := Lib.hid (PA.out.2.2.1.trans K5)
        go_wp2_with fail
        go_ret
        exact ⟨rfl, K5.out⟩

set_option maxRecDepth 100000 in
set_option maxHeartbeats 1000000 in
theorem lifted (os : Os) (started : os.Started) (H : Type) (enc : TypeId × Value → H) :
    ReturnsInHanded {} Try.checked os 3 .any (Rows.bufPutsSpec.pre6 enc Try.prog Try.f3 Rows.bufPutsRow.domain false) (Rows.bufPutsSpec.post enc Try.prog Try.f3 false true false false) := by
  refine returnsInHanded_of_change_sized (C := Try.checked) own started (by kernel_rfl) Try.func3
    (ChangeSpec.witness6 (enc := enc) (C := Try.checked) false ⟨#[], #[.slice none 0 0], []⟩ 8 (by kernel_rfl) (by kernel_rfl) (by kernel_rfl) (by kernel_rfl)) ?_
  intro W base args ds gs before hval0 hW hcnd hsz0 _
  have hval : ∀ (j : Nat) t v, Try.f3.params[j]? = some t → args[j]? = some v → Value.okWide Try.prog W .any base t v := hval0
  have hsz : (DataW.weightsEach Try.prog (Try.f3.params.toList ++ Rows.bufPutsSpec.plain.varTypes Try.prog) (ds ++ gs)).all (· ≤ reachBytes) = true := hsz0
  have hW' := hW
  obtain ⟨p, q, hA0, hV, rfl, hfz, hnd⟩ := hW
  have hA : DataW.TrodAll enc Try.prog W 0 (fun _ => true) true Try.f3.params.toList args.toList ds p := hA0
  have hAk := hA
  rw [Try.params3] at hA hval hsz
  obtain ⟨v0, vs0, d0, ds0, p0_, q0_, hargs, rfl, rfl, h0, r0_⟩ := trodAll_cons hA
  obtain ⟨rfl, rfl, rfl⟩ := trodAll_nil r0_
  obtain rfl : args = #[v0] := by cases args; simp_all
  obtain ⟨rfl, rfl⟩ := trodVars_none hV
  have hlt : ∀ x ∈ (p0_ ++ ([])), x.block < W.heap.size := fun x hx => by simpa using hW'.lt x (by simpa using hx)
  obtain ⟨p0, n0, c0, z0, rfl, e0⟩ := open_recsArg Try.underlying22 Try.underlying35 (by kernel_rfl) ⟨rfl, rfl, rfl, rfl⟩ ⟨by kernel_rfl, by kernel_rfl, by kernel_rfl, by kernel_rfl⟩ Try.underlying3 Try.underlying9 Try.underlying31 Try.underlying33 Try.underlying5 (by kernel_rfl) (hval 0 22 v0 rfl rfl) h0
  clear hA0 hval0
  refine (walk p0 n0 c0 z0 W e0).mono fun e W' ⟨he, hg⟩ => ?_
  subst he
  exact ⟨_, rfl, ⟨_, _, _, [], _, [], hW', trodAll_cons_mk (shut_bool Try.underlying4 _) trodAll_mk0, trodAll_stays laidOut hg (by kernel_rfl) hAk hlt (fun x hx => by simpa using hlt x hx), rfl, Kept.frame hg _, fun h => by cases h⟩⟩

theorem over : Rows.bufPutsRow.holds Try.pinned (OpenSpec.ofChange Rows.bufPutsSpec) :=
  OpenClaim.holds_of_wide 3 Try.f3 rfl rfl rfl rfl rfl rfl rfl ⟨rfl, rfl, rfl, rfl, rfl⟩ rfl rfl rfl rfl rfl (by kernel_rfl) Try.func3 (by kernel_rfl)
    (of_decide_eq_true (by kernel_rfl)) (by unfold Func.isWrapper; first | (rw [if_pos (by decide +kernel)]; kernel_rfl) | (rw [if_neg (by decide +kernel)]; exact ⟨rfl, rfl⟩))
    (fun os started H enc _ => lifted os started H enc)
end Go.Proofs.Ytmccpbpnpdidbaa.bufPuts
namespace Go.Proofs.Ytmccpbpnpdidbaa
theorem bufPuts_holds : Rows.BufPutsSaid := bufPuts.over
#print axioms bufPuts_holds
end Go.Proofs.Ytmccpbpnpdidbaa
