/-
  head.Take of head.Bytes gives the very header, head.Bytes of what head.Take took gives the very bytes, exactly 76 bytes are taken, and a header has 76 bytes, for every header and every string; the law's examples hold: 'HeadBack' returns true for every input.
  Conditions: none.
-/
import Derived.Test.YtdidgenenlefiaaRows
import Derived.Test.YtdidgenenlefiaaHeadLaw
import Derived.Test.YtdidgenenlefiaaLawLibJ
import Derived.WalkKit
import Derived.ProofKit
import Derived.OpenShut
import Derived.ShutString
import Derived.SizedLaws
import Derived.Test.YtdidgenenlefiaaBas
namespace Go.Proofs.Ytdidgenenlefiaa.headBack
open Go.ChangeShapes Go.WideShapes Go.ChangeAt Go.RowKit
open Go.ChangeMaps (open_string shut_string)
set_option linter.unusedVariables false

theorem own : ownKnob Try.prog.godebug = none := by kernel_rfl
theorem laidOut : laidOutB Try.prog = true := by kernel_rfl

set_option maxRecDepth 100000 in
set_option maxHeartbeats 4000000 in
theorem walk (a0 : Hd) (w0 : a0.ok) (a1 : ByteArray) (w1 : a1.size ≤ maxLen) (r1 : a1.size ≤ 140737488351232) (w : World)  :
    Calls Try.prog 5 #[.agg (hdC a0), .string a1] w fun e w' => e = .returned (.bool true) ∧ Kept w w' := by
  have HO := Lib.hid w0
  have HT := Lib.hid (hT_ok a1)
  have hs := hdS_size a0 w0
  have H1 : Hid (∀ w, Calls Try.prog 6 #[.agg (hdC a0)] w fun e w' => e = .returned (.string (hdS a0)) ∧ Kept w w') := Lib.hid fun w => headBytes_any a0 w HO.out
  have H2 : Hid (∀ w, Calls Try.prog 9 #[.string (hdS a0)] w fun e w' => e = .returned (.tuple #[.agg (hdC a0), .int .i64 0]) ∧ Kept w w') := Lib.hid fun w => by
    have := headTake_any (hdS a0) w (by rw [hs]; unfold maxLen; omega)
    rwa [hT_hdS _ HO.out, hE_hdS _ HO.out] at this
  have H3 : Hid (∀ w, Calls Try.prog 9 #[.string a1] w fun e w' => e = .returned (.tuple #[.agg (hdC (hT a1)), .int .i64 (hE a1)]) ∧ Kept w w') := Lib.hid fun w => headTake_any a1 w w1
  have H4 : Hid (a1.size = 76 → ∀ w, Calls Try.prog 6 #[.agg (hdC (hT a1))] w fun e w' => e = .returned (.string a1) ∧ Kept w w') := Lib.hid fun h w => by
    have := headBytes_any (hT a1) w HT.out
    have e : hT a1 = hdT a1 := by rw [hT, if_pos h]
    rw [e] at this ⊢
    rwa [hdS_hdT a1 h] at this
  have h76 : hE a1 = 0 ↔ a1.size = 76 := hE_zero a1
  clear w0 w1 r1
  generalize hE a1 = E at H3 h76
  generalize hT a1 = Y at H3 H4 HT
  generalize hdS a0 = s at H1 H2 hs
  have hz' : ((s.size : Int) == 76) = true := by simp [hs]
  have HI0 := Lib.hid (info_hdr a0)
  have HN0 := Lib.hid (hdC_one a0)
  have HI1 := Lib.hid (info_hdr Y)
  have HN1 := Lib.hid (hdC_one Y)
  have R2 := Lib.hid (Rowz.new w (hdC a0) 27)
  have K1 := Lib.hid ((Kept.refl w).alloc (.cells (hdC a0) 27))
  go_enter Try.func5, Try.ntmps5
  go_wp2_with (refine park_at 10 rfl ?_)
  generalize w.alloc (.cells (hdC a0) 27) = v at R2 K1 ⊢
  generalize w.heap.size = b at R2 ⊢
  refine unpark ?_
  go_wp2_with (refine wpList_exec 10 rfl (by rfl) _ _ (loadHd rfl rfl R2.out) ?_)
  refine (H1.out _).mono ?_
  rintro e v1 ⟨rfl, k1⟩
  replace K1 := Lib.hid (K1.out.trans k1)
  replace R2 := Lib.hid (R2.out.kept k1)
  clear k1 H1
  go_wp2_with fail
  refine (H2.out _).mono ?_
  rintro e v2 ⟨rfl, k2⟩
  replace K1 := Lib.hid (K1.out.trans k2)
  replace R2 := Lib.hid (R2.out.kept k2)
  clear k2 H2
  go_wp2_with (first
    | (refine wpList_exec 6 rfl (by rfl) _ _ (execAllocHd _ rfl) ?_)
    | (refine wpList_store_made rfl 27 _ _ rfl _ _ (hdC a0) rfl rfl 27 _ rfl HI0.out (by rw [hdC_size, hdC_size]) HN0.out ?_; intro v3 R6 k3))
  obtain ⟨g6, hg6⟩ : ∃ g, g = v2.heap.size := ⟨_, rfl⟩
  rw [← hg6] at R6 ⊢
  clear hg6
  replace K1 := Lib.hid (K1.out.trans k3.out)
  replace R2 := Lib.hid (R2.out.kept k3.out)
  clear k3
  refine (H3.out _).mono ?_
  rintro e v4 ⟨rfl, k4⟩
  replace K1 := Lib.hid (K1.out.trans k4)
  replace R2 := Lib.hid (R2.out.kept k4)
  replace R6 := Lib.hid (R6.out.kept k4)
  clear k4 H3
  by_cases h : a1.size = 76
  · obtain rfl : E = 0 := h76.2 h
    have hd : ((a1.size : Int) == 76) = true := by simp [h]
    replace H4 := Lib.hid (H4.out h)
    clear h76
    go_wp2_with (first
      | (refine wpList_exec 8 rfl (by rfl) _ _ (execAllocHd _ rfl) ?_)
      | (refine wpList_store_made rfl 27 _ _ rfl _ _ (hdC Y) rfl rfl 27 _ rfl HI1.out (by rw [hdC_size, hdC_size]) HN1.out ?_; intro v5 R8 k5; replace R2 := Lib.hid (R2.out.kept k5.out); replace R6 := Lib.hid (R6.out.kept k5.out); replace K1 := Lib.hid (K1.out.trans k5.out); clear k5)
      | (refine wpList_exec 26 rfl (by rfl) _ _ (loadHd rfl rfl R6.out) ?_)
      | (refine wpList_exec 27 rfl (by rfl) _ _ (loadHd rfl rfl R2.out) ?_)
      | (refine wpList_exec 28 rfl (by rfl) _ _ (execEqHd a0 a0 HO.out HO.out _ rfl rfl rfl) ?_)
      | (refine wpList_exec 46 rfl (by rfl) _ _ (loadHd rfl rfl R8.out) ?_))
    refine (H4.out _).mono ?_
    rintro e v6 ⟨rfl, k6⟩
    replace K1 := Lib.hid (K1.out.trans k6)
    clear k6 H4
    go_wp2_with fail
    refine (awake17_any _).mono ?_
    rintro e v7 ⟨rfl, k7⟩
    replace K1 := Lib.hid (K1.out.trans k7)
    clear k7
    go_wp2_with fail
    go_ret
    exact ⟨rfl, K1.out⟩
  · have hE0 : (E == 0) = false := by simp; exact fun h2 => h (h76.1 h2)
    have hE1 : (E != 0) = true := by simp; exact fun h2 => h (h76.1 h2)
    have hd : ((a1.size : Int) == 76) = false := by simp; omega
    clear H4
    go_wp2_with (first
      | (refine wpList_exec 8 rfl (by rfl) _ _ (execAllocHd _ rfl) ?_)
      | (refine wpList_store_made rfl 27 _ _ rfl _ _ (hdC Y) rfl rfl 27 _ rfl HI1.out (by rw [hdC_size, hdC_size]) HN1.out ?_; intro v5 R8 k5; replace R2 := Lib.hid (R2.out.kept k5.out); replace R6 := Lib.hid (R6.out.kept k5.out); replace K1 := Lib.hid (K1.out.trans k5.out); clear k5)
      | (refine wpList_exec 26 rfl (by rfl) _ _ (loadHd rfl rfl R6.out) ?_)
      | (refine wpList_exec 27 rfl (by rfl) _ _ (loadHd rfl rfl R2.out) ?_)
      | (refine wpList_exec 28 rfl (by rfl) _ _ (execEqHd a0 a0 HO.out HO.out _ rfl rfl rfl) ?_))
    refine (awake17_any _).mono ?_
    rintro e v7 ⟨rfl, k7⟩
    replace K1 := Lib.hid (K1.out.trans k7)
    clear k7
    go_wp2_with fail
    go_ret
    exact ⟨rfl, K1.out⟩

set_option maxRecDepth 100000 in
set_option maxHeartbeats 1000000 in
theorem lifted (os : Os) (started : os.Started) (H : Type) (enc : TypeId × Value → H) :
    ReturnsInHanded {} Try.checked os 5 .any (Rows.headBackSpec.pre6 enc Try.prog Try.f5 Rows.headBackRow.domain false) (Rows.headBackSpec.post enc Try.prog Try.f5 false true false false) := by
  refine returnsInHanded_of_change_sized (C := Try.checked) own started (by kernel_rfl) Try.func5
    (ChangeSpec.witness6 (enc := enc) (C := Try.checked) false ⟨#[], #[.agg #[.int .u32 0, .int .u8 0, .int .u8 0, .int .u8 0, .int .u8 0, .int .u8 0, .int .u8 0, .int .u8 0, .int .u8 0, .int .u8 0, .int .u8 0, .int .u8 0, .int .u8 0, .int .u8 0, .int .u8 0, .int .u8 0, .int .u8 0, .int .u8 0, .int .u8 0, .int .u8 0, .int .u8 0, .int .u8 0, .int .u8 0, .int .u8 0, .int .u8 0, .int .u8 0, .int .u8 0, .int .u8 0, .int .u8 0, .int .u8 0, .int .u8 0, .int .u8 0, .int .u8 0, .int .u8 0, .int .u8 0, .int .u8 0, .int .u8 0, .int .u8 0, .int .u8 0, .int .u8 0, .int .u8 0, .int .u8 0, .int .u8 0, .int .u8 0, .int .u8 0, .int .u8 0, .int .u8 0, .int .u8 0, .int .u8 0, .int .u8 0, .int .u8 0, .int .u8 0, .int .u8 0, .int .u8 0, .int .u8 0, .int .u8 0, .int .u8 0, .int .u8 0, .int .u8 0, .int .u8 0, .int .u8 0, .int .u8 0, .int .u8 0, .int .u8 0, .int .u8 0, .int .u64 0], .string ByteArray.empty], []⟩ 8 (by kernel_rfl) (by kernel_rfl) (by kernel_rfl) (by kernel_rfl)) ?_
  intro W base args ds gs before hval0 hW hcnd hsz0 _
  have hval : ∀ (j : Nat) t v, Try.f5.params[j]? = some t → args[j]? = some v → Value.okWide Try.prog W .any base t v := hval0
  have hsz : (DataW.weightsEach Try.prog (Try.f5.params.toList ++ Rows.headBackSpec.plain.varTypes Try.prog) (ds ++ gs)).all (· ≤ reachBytes) = true := hsz0
  have hW' := hW
  obtain ⟨p, q, hA0, hV, rfl, hfz, hnd⟩ := hW
  have hA : DataW.TrodAll enc Try.prog W 0 (fun _ => true) true Try.f5.params.toList args.toList ds p := hA0
  have hAk := hA
  rw [Try.params5] at hA hval hsz
  obtain ⟨v0, vs0, d0, ds0, p0_, q0_, hargs, rfl, rfl, h0, r0_⟩ := trodAll_cons hA
  obtain ⟨v1, vs1, d1, ds1, p1_, q1_, rfl, rfl, rfl, h1, r1_⟩ := trodAll_cons r0_
  obtain ⟨rfl, rfl, rfl⟩ := trodAll_nil r1_
  obtain rfl : args = #[v0, v1] := by cases args; simp_all
  obtain ⟨rfl, rfl⟩ := trodVars_none hV
  have hlt : ∀ x ∈ (p0_ ++ (p1_ ++ ([]))), x.block < W.heap.size := fun x hx => by simpa using hW'.lt x (by simpa using hx)
  obtain ⟨cs0, rfl, _⟩ := okWide_struct Try.underlying27 (hval 0 27 v0 rfl rfl)
  obtain ⟨a0, w0, rfl⟩ := open_header Try.underlying27 (by kernel_rfl) ⟨rfl, rfl, rfl, rfl⟩ ⟨by kernel_rfl, by kernel_rfl, by kernel_rfl, by kernel_rfl⟩ Try.underlying22 Try.underlying24 Try.underlying24 Try.underlying25 Try.underlying5 (by kernel_rfl) h0
  obtain ⟨a1, rfl, rfl, rfl, w1⟩ := open_string Try.underlying9 (hval 1 9 v1 rfl rfl) h1
  have r1 : a1.size ≤ 140737488351232 := by have := sized_string hsz (j := 1) (t := 9) rfl rfl; simpa [reachBytes] using this
  clear hA0 hval0
  refine (walk a0 w0 a1 w1 r1 W ).mono fun e W' ⟨he, hg⟩ => ?_
  subst he
  exact ⟨_, rfl, ⟨_, _, _, [], _, [], hW', trodAll_cons_mk (shut_bool Try.underlying4 _) trodAll_mk0, trodAll_stays laidOut hg (by kernel_rfl) hAk hlt (fun x hx => by simpa using hlt x hx), rfl, Kept.frame hg _, fun h => by cases h⟩⟩

theorem over : Rows.headBackRow.holds Try.pinned (OpenSpec.ofChange Rows.headBackSpec) :=
  OpenClaim.holds_of_wide 5 Try.f5 rfl rfl rfl rfl rfl rfl rfl ⟨rfl, rfl, rfl, rfl, rfl⟩ rfl rfl rfl rfl rfl (by kernel_rfl) Try.func5 (by kernel_rfl)
    (of_decide_eq_true (by kernel_rfl)) (by unfold Func.isWrapper; first | (rw [if_pos (by decide +kernel)]; kernel_rfl) | (rw [if_neg (by decide +kernel)]; exact ⟨rfl, rfl⟩))
    (fun os started H enc _ => lifted os started H enc)
end Go.Proofs.Ytdidgenenlefiaa.headBack
namespace Go.Proofs.Ytdidgenenlefiaa
theorem headBack_holds : Rows.HeadBackSaid := headBack.over
#print axioms headBack_holds
end Go.Proofs.Ytdidgenenlefiaa
